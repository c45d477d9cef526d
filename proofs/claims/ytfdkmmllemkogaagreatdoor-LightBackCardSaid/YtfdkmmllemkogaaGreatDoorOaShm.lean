/-
  The shelf's contracts of strings.CutPrefix, CutSuffix, Cut, genSplit and strconv.Atoi over this program, as the kit's command lays them in plain words.
-/
import Derived.Shelf.Small.Wraps
import Derived.Shelf.Strconv.Atoi
import Derived.Shelf.Strings.Cut
import Derived.Shelf.Strings.Split
import Derived.Test.YtfdkmmllemkogaaGreatDoorProg
import Derived.Lib.SmallJoins
import Derived.Test.YtfdkmmllemkogaaGreatDoorOaSl
import Derived.MapKept
import Derived.WideMake
import Derived.RangeFuncBox
import Derived.Test.YtfdkmmllemkogaaGreatDoorOWa
import Derived.Lib.AppendZerosOnto
import Derived.Lib.SliceRun
namespace Go.Proofs
open Go.Shelf
def Tryz.lays103_ren : Go.Shelf.Ren := ⟨fun | 103 => 250 | 210 => 262 | 206 => 273 | n => n, fun | 9 => 9 | 4 => 4 | 24 => 297 | 3 => 3 | n => n, fun | n => n⟩
theorem Tryz.lays103 : Go.Proofs.Lays.n103 Tryz.prog Tryz.lays103_ren := {
  mixed := by kernel_rfl
  f103 := Tryz.func250.trans (congrArg some (by kernel_rfl))
  f206 := Tryz.func273.trans (congrArg some (by kernel_rfl))
  f210 := Tryz.func262.trans (congrArg some (by kernel_rfl))
  t3 := Tryz.underlying3
  a3 := Tryz.isAgg3
  z3 := Tryz.sizeOf3
  v3 := Tryz.zeroValue3
  t4 := Tryz.underlying4
  a4 := Tryz.isAgg4
  z4 := Tryz.sizeOf4
  v4 := Tryz.zeroValue4
  t9 := Tryz.underlying9
  a9 := Tryz.isAgg9
  z9 := Tryz.sizeOf9
  v9 := Tryz.zeroValue9
  t24 := Tryz.underlying297
  a24 := Tryz.isAgg297
  z24 := Tryz.sizeOf297
  v24 := Tryz.zeroValue297 }
open Go.RowKit in
theorem Tryz.strings_CutPrefix (s p : ByteArray) (w : World) :
    Calls Tryz.prog 250 #[.string s, .string p] w fun e w' => e = .returned (.tuple #[.string ⟨(Lib.trimPrefix s.data.toList p.data.toList).toArray⟩, .bool (Lib.hasPrefix s.data.toList p.data.toList)]) ∧ w' = w := Any.strings_CutPrefix Tryz.lays103 s p w
def Tryz.lays104_ren : Go.Shelf.Ren := ⟨fun | 104 => 238 | 211 => 249 | 207 => 261 | n => n, fun | 9 => 9 | 4 => 4 | 24 => 297 | 3 => 3 | n => n, fun | n => n⟩
theorem Tryz.lays104 : Go.Proofs.Lays.n104 Tryz.prog Tryz.lays104_ren := {
  mixed := by kernel_rfl
  f104 := Tryz.func238.trans (congrArg some (by kernel_rfl))
  f207 := Tryz.func261.trans (congrArg some (by kernel_rfl))
  f211 := Tryz.func249.trans (congrArg some (by kernel_rfl))
  t3 := Tryz.underlying3
  a3 := Tryz.isAgg3
  z3 := Tryz.sizeOf3
  v3 := Tryz.zeroValue3
  t4 := Tryz.underlying4
  a4 := Tryz.isAgg4
  z4 := Tryz.sizeOf4
  v4 := Tryz.zeroValue4
  t9 := Tryz.underlying9
  a9 := Tryz.isAgg9
  z9 := Tryz.sizeOf9
  v9 := Tryz.zeroValue9
  t24 := Tryz.underlying297
  a24 := Tryz.isAgg297
  z24 := Tryz.sizeOf297
  v24 := Tryz.zeroValue297 }
open Go.RowKit in
theorem Tryz.strings_CutSuffix (s p : ByteArray) (w : World) (hs : s.size ≤ 9223372036854775807) :
    Calls Tryz.prog 238 #[.string s, .string p] w fun e w' => e = .returned (.tuple #[.string ⟨(Lib.trimSuffix s.data.toList p.data.toList).toArray⟩, .bool (Lib.hasSuffix s.data.toList p.data.toList)]) ∧ w' = w := Any.strings_CutSuffix Tryz.lays104 s p w hs
def Tryz.lays172_ren : Go.Shelf.Ren := ⟨fun | 172 => 263 | 244 => 274 | 245 => 275 | 247 => 283 | 279 => 284 | 280 => 285 | 281 => 286 | 282 => 287 | 287 => 290 | 316 => 291 | 171 => 216 | 205 => 292 | 321 => 293 | 322 => 294 | 243 => 236 | 246 => 247 | 283 => 254 | 284 => 255 | 285 => 256 | 286 => 257 | 129 => 266 | 317 => 265 | 318 => 267 | 319 => 268 | 320 => 269 | 337 => 280 | 338 => 281 | n => n, fun | 9 => 9 | 3 => 3 | 75 => 237 | 76 => 238 | 4 => 4 | 5 => 5 | 167 => 326 | 37 => 109 | 0 => 0 | 85 => 327 | 2 => 2 | 168 => 329 | 53 => 290 | 175 => 340 | 46 => 274 | 210 => 344 | 127 => 278 | 145 => 349 | 143 => 347 | 21 => 21 | 171 => 108 | 173 => 311 | 212 => 317 | 51 => 229 | 20 => 20 | 213 => 318 | 232 => 334 | 233 => 335 | 80 => 244 | n => n, fun | 15 => 7 | 16 => 8 | 17 => 2 | 18 => 3 | 19 => 4 | n => n⟩
theorem Tryz.lays172 : Go.Proofs.Lays.n172 Tryz.prog Tryz.lays172_ren := {
  mixed := by kernel_rfl
  f129 := Tryz.func266.trans (congrArg some (by kernel_rfl))
  f171 := Tryz.func216.trans (congrArg some (by kernel_rfl))
  f172 := Tryz.func263.trans (congrArg some (by kernel_rfl))
  f205 := Tryz.func292.trans (congrArg some (by kernel_rfl))
  f243 := Tryz.func236.trans (congrArg some (by kernel_rfl))
  f244 := Tryz.func274.trans (congrArg some (by kernel_rfl))
  f245 := Tryz.func275.trans (congrArg some (by kernel_rfl))
  f246 := Tryz.func247.trans (congrArg some (by kernel_rfl))
  f247 := Tryz.func283.trans (congrArg some (by kernel_rfl))
  f279 := Tryz.func284.trans (congrArg some (by kernel_rfl))
  f280 := Tryz.func285.trans (congrArg some (by kernel_rfl))
  f281 := Tryz.func286.trans (congrArg some (by kernel_rfl))
  f282 := Tryz.func287.trans (congrArg some (by kernel_rfl))
  f283 := Tryz.func254.trans (congrArg some (by kernel_rfl))
  f284 := Tryz.func255.trans (congrArg some (by kernel_rfl))
  f285 := Tryz.func256.trans (congrArg some (by kernel_rfl))
  f286 := Tryz.func257.trans (congrArg some (by kernel_rfl))
  f287 := Tryz.func290.trans (congrArg some (by kernel_rfl))
  f316 := Tryz.func291.trans (congrArg some (by kernel_rfl))
  f317 := Tryz.func265.trans (congrArg some (by kernel_rfl))
  f318 := Tryz.func267.trans (congrArg some (by kernel_rfl))
  f319 := Tryz.func268.trans (congrArg some (by kernel_rfl))
  f320 := Tryz.func269.trans (congrArg some (by kernel_rfl))
  f321 := Tryz.func293.trans (congrArg some (by kernel_rfl))
  f322 := Tryz.func294.trans (congrArg some (by kernel_rfl))
  f337 := Tryz.func280.trans (congrArg some (by kernel_rfl))
  f338 := Tryz.func281.trans (congrArg some (by kernel_rfl))
  t0 := Tryz.underlying0
  a0 := Tryz.isAgg0
  z0 := Tryz.sizeOf0
  v0 := Tryz.zeroValue0
  t2 := Tryz.underlying2
  a2 := Tryz.isAgg2
  z2 := Tryz.sizeOf2
  v2 := Tryz.zeroValue2
  t3 := Tryz.underlying3
  a3 := Tryz.isAgg3
  z3 := Tryz.sizeOf3
  v3 := Tryz.zeroValue3
  t4 := Tryz.underlying4
  a4 := Tryz.isAgg4
  z4 := Tryz.sizeOf4
  v4 := Tryz.zeroValue4
  t5 := Tryz.underlying5
  a5 := Tryz.isAgg5
  z5 := Tryz.sizeOf5
  v5 := Tryz.zeroValue5
  t9 := Tryz.underlying9
  a9 := Tryz.isAgg9
  z9 := Tryz.sizeOf9
  v9 := Tryz.zeroValue9
  t20 := Tryz.underlying20
  a20 := Tryz.isAgg20
  z20 := Tryz.sizeOf20
  v20 := Tryz.zeroValue20
  t21 := Tryz.underlying21
  a21 := Tryz.isAgg21
  z21 := Tryz.sizeOf21
  v21 := Tryz.zeroValue21
  t37 := Tryz.underlying109
  a37 := Tryz.isAgg109
  z37 := Tryz.sizeOf109
  v37 := Tryz.zeroValue109
  t46 := Tryz.underlying274
  a46 := Tryz.isAgg274
  z46 := Tryz.sizeOf274
  v46 := Tryz.zeroValue274
  t51 := Tryz.underlying229
  a51 := Tryz.isAgg229
  z51 := Tryz.sizeOf229
  v51 := Tryz.zeroValue229
  t53 := Tryz.underlying290
  a53 := Tryz.isAgg290
  z53 := Tryz.sizeOf290
  v53 := Tryz.zeroValue290
  t75 := Tryz.underlying237
  a75 := Tryz.isAgg237
  z75 := Tryz.sizeOf237
  v75 := Tryz.zeroValue237
  t76 := Tryz.underlying238
  a76 := Tryz.isAgg238
  z76 := Tryz.sizeOf238
  v76 := Tryz.zeroValue238
  t85 := Tryz.underlying327
  a85 := Tryz.isAgg327
  z85 := Tryz.sizeOf327
  v85 := Tryz.zeroValue327
  t127 := Tryz.underlying278
  a127 := Tryz.isAgg278
  z127 := Tryz.sizeOf278
  v127 := Tryz.zeroValue278
  t143 := Tryz.underlying347
  a143 := Tryz.isAgg347
  z143 := Tryz.sizeOf347
  v143 := Tryz.zeroValue347
  t145 := Tryz.underlying349
  a145 := Tryz.isAgg349
  z145 := Tryz.sizeOf349
  v145 := Tryz.zeroValue349
  t167 := Tryz.underlying326
  a167 := Tryz.isAgg326
  z167 := Tryz.sizeOf326
  v167 := Tryz.zeroValue326
  t168 := Tryz.underlying329
  a168 := Tryz.isAgg329
  z168 := Tryz.sizeOf329
  v168 := Tryz.zeroValue329
  t171 := Tryz.underlying108
  a171 := Tryz.isAgg108
  z171 := Tryz.sizeOf108
  v171 := Tryz.zeroValue108
  t173 := Tryz.underlying311
  a173 := Tryz.isAgg311
  z173 := Tryz.sizeOf311
  v173 := Tryz.zeroValue311
  t175 := Tryz.underlying340
  a175 := Tryz.isAgg340
  z175 := Tryz.sizeOf340
  v175 := Tryz.zeroValue340
  t210 := Tryz.underlying344
  a210 := Tryz.isAgg344
  z210 := Tryz.sizeOf344
  v210 := Tryz.zeroValue344
  t212 := Tryz.underlying317
  a212 := Tryz.isAgg317
  z212 := Tryz.sizeOf317
  v212 := Tryz.zeroValue317
  t213 := Tryz.underlying318
  a213 := Tryz.isAgg318
  z213 := Tryz.sizeOf318
  t232 := Tryz.underlying334
  a232 := Tryz.isAgg334
  z232 := Tryz.sizeOf334
  v232 := Tryz.zeroValue334
  t233 := Tryz.underlying335
  a233 := Tryz.isAgg335
  z233 := Tryz.sizeOf335
  v233 := Tryz.zeroValue335
  g15 := by kernel_rfl
  g16 := by kernel_rfl
  g17 := by kernel_rfl
  g18 := by kernel_rfl
  g19 := by kernel_rfl }
open Go.RowKit in
theorem Tryz.strconv_Atoi (s : ByteArray) (n : Int) (hl : s.size ≤ 18) (h : Lib.atoi s.data.toList = some n) (w : World) :
    Calls Tryz.prog 263 #[.string s] w fun e w' => e = .returned (.tuple #[.int .i64 n, .nilIface]) ∧ ∃ t, w' = Lib.bytesWorld w 5 t := Any.strconv_Atoi Tryz.lays172 s n hl h w
def Tryz.lays145_ren : Go.Shelf.Ren := ⟨fun | 145 => 242 | 220 => 252 | 219 => 264 | 217 => 276 | 225 => 277 | 224 => 278 | 267 => 279 | 266 => 288 | 314 => 289 | n => n, fun | 9 => 9 | 4 => 4 | 59 => 302 | 3 => 3 | 5 => 5 | 46 => 274 | 146 => 332 | 51 => 229 | n => n, fun | 1 => 1 | n => n⟩
theorem Tryz.lays145 : Go.Proofs.Lays.n145 Tryz.prog Tryz.lays145_ren := {
  mixed := by kernel_rfl
  f145 := Tryz.func242.trans (congrArg some (by kernel_rfl))
  f217 := Tryz.func276.trans (congrArg some (by kernel_rfl))
  f219 := Tryz.func264.trans (congrArg some (by kernel_rfl))
  f220 := Tryz.func252.trans (congrArg some (by kernel_rfl))
  f224 := Tryz.func278.trans (congrArg some (by kernel_rfl))
  f225 := Tryz.func277.trans (congrArg some (by kernel_rfl))
  f266 := Tryz.func288.trans (congrArg some (by kernel_rfl))
  f267 := Tryz.func279.trans (congrArg some (by kernel_rfl))
  f314 := Tryz.func289.trans (congrArg some (by kernel_rfl))
  t3 := Tryz.underlying3
  a3 := Tryz.isAgg3
  z3 := Tryz.sizeOf3
  v3 := Tryz.zeroValue3
  t4 := Tryz.underlying4
  a4 := Tryz.isAgg4
  z4 := Tryz.sizeOf4
  v4 := Tryz.zeroValue4
  t5 := Tryz.underlying5
  a5 := Tryz.isAgg5
  z5 := Tryz.sizeOf5
  v5 := Tryz.zeroValue5
  t9 := Tryz.underlying9
  a9 := Tryz.isAgg9
  z9 := Tryz.sizeOf9
  v9 := Tryz.zeroValue9
  t46 := Tryz.underlying274
  a46 := Tryz.isAgg274
  z46 := Tryz.sizeOf274
  v46 := Tryz.zeroValue274
  t51 := Tryz.underlying229
  a51 := Tryz.isAgg229
  z51 := Tryz.sizeOf229
  v51 := Tryz.zeroValue229
  t59 := Tryz.underlying302
  a59 := Tryz.isAgg302
  z59 := Tryz.sizeOf302
  v59 := Tryz.zeroValue302
  t146 := Tryz.underlying332
  a146 := Tryz.isAgg332
  z146 := Tryz.sizeOf332
  v146 := Tryz.zeroValue332
  g1 := by kernel_rfl }
open Go.RowKit Go.Lib in
theorem Tryz.strings_Cut (s sep : ByteArray) (m : Int) (w : World) (hs : s.size < 4294967281) (hm : w.cell? ⟨1, 0, none⟩ = some (.int .i64 m)) :
    Calls Tryz.prog 242 #[.string s, .string sep] w fun e w' => e = .returned (.tuple #[.string ⟨(Lib.cut s.data.toList sep.data.toList).1.toArray⟩, .string ⟨(Lib.cut s.data.toList sep.data.toList).2.1.toArray⟩, .bool (Lib.cut s.data.toList sep.data.toList).2.2]) ∧ ∃ n, w' = w.drewN n := Any.strings_Cut Tryz.lays145 s sep m w hs hm
def Tryz.lays221_ren : Go.Shelf.Ren := ⟨fun | 221 => 248 | 268 => 258 | 138 => 259 | 143 => 260 | 195 => 270 | 197 => 271 | 218 => 272 | 219 => 264 | 260 => 282 | 217 => 276 | 225 => 277 | 224 => 278 | 267 => 279 | 266 => 288 | 314 => 289 | n => n, fun | 9 => 9 | 3 => 3 | 31 => 166 | 4 => 4 | 0 => 0 | 105 => 321 | 21 => 21 | 5 => 5 | 46 => 274 | 119 => 336 | 139 => 339 | 138 => 338 | 146 => 332 | 51 => 229 | n => n, fun | 1 => 1 | 3 => 5 | 4 => 6 | n => n⟩
theorem Tryz.lays221 : Go.Proofs.Lays.n221 Tryz.prog Tryz.lays221_ren := {
  mixed := by kernel_rfl
  f138 := Tryz.func259.trans (congrArg some (by kernel_rfl))
  f143 := Tryz.func260.trans (congrArg some (by kernel_rfl))
  f195 := Tryz.func270.trans (congrArg some (by kernel_rfl))
  f197 := Tryz.func271.trans (congrArg some (by kernel_rfl))
  f217 := Tryz.func276.trans (congrArg some (by kernel_rfl))
  f218 := Tryz.func272.trans (congrArg some (by kernel_rfl))
  f219 := Tryz.func264.trans (congrArg some (by kernel_rfl))
  f221 := Tryz.func248.trans (congrArg some (by kernel_rfl))
  f224 := Tryz.func278.trans (congrArg some (by kernel_rfl))
  f225 := Tryz.func277.trans (congrArg some (by kernel_rfl))
  f260 := Tryz.func282.trans (congrArg some (by kernel_rfl))
  f266 := Tryz.func288.trans (congrArg some (by kernel_rfl))
  f267 := Tryz.func279.trans (congrArg some (by kernel_rfl))
  f268 := Tryz.func258.trans (congrArg some (by kernel_rfl))
  f314 := Tryz.func289.trans (congrArg some (by kernel_rfl))
  t0 := Tryz.underlying0
  a0 := Tryz.isAgg0
  z0 := Tryz.sizeOf0
  v0 := Tryz.zeroValue0
  t3 := Tryz.underlying3
  a3 := Tryz.isAgg3
  z3 := Tryz.sizeOf3
  v3 := Tryz.zeroValue3
  t4 := Tryz.underlying4
  a4 := Tryz.isAgg4
  z4 := Tryz.sizeOf4
  v4 := Tryz.zeroValue4
  t5 := Tryz.underlying5
  a5 := Tryz.isAgg5
  z5 := Tryz.sizeOf5
  v5 := Tryz.zeroValue5
  t9 := Tryz.underlying9
  a9 := Tryz.isAgg9
  z9 := Tryz.sizeOf9
  v9 := Tryz.zeroValue9
  t21 := Tryz.underlying21
  a21 := Tryz.isAgg21
  z21 := Tryz.sizeOf21
  v21 := Tryz.zeroValue21
  t31 := Tryz.underlying166
  a31 := Tryz.isAgg166
  z31 := Tryz.sizeOf166
  v31 := Tryz.zeroValue166
  t46 := Tryz.underlying274
  a46 := Tryz.isAgg274
  z46 := Tryz.sizeOf274
  v46 := Tryz.zeroValue274
  t51 := Tryz.underlying229
  a51 := Tryz.isAgg229
  z51 := Tryz.sizeOf229
  v51 := Tryz.zeroValue229
  t105 := Tryz.underlying321
  a105 := Tryz.isAgg321
  z105 := Tryz.sizeOf321
  v105 := Tryz.zeroValue321
  t119 := Tryz.underlying336
  a119 := Tryz.isAgg336
  z119 := Tryz.sizeOf336
  t138 := Tryz.underlying338
  a138 := Tryz.isAgg338
  z138 := Tryz.sizeOf338
  v138 := Tryz.zeroValue338
  t139 := Tryz.underlying339
  a139 := Tryz.isAgg339
  z139 := Tryz.sizeOf339
  v139 := Tryz.zeroValue339
  t146 := Tryz.underlying332
  a146 := Tryz.isAgg332
  z146 := Tryz.sizeOf332
  v146 := Tryz.zeroValue332
  g1 := by kernel_rfl
  g3 := by kernel_rfl
  g4 := by kernel_rfl }
open Go.RowKit Go.Lib in
theorem Tryz.strings_genSplit (s sep : ByteArray) (sv : Nat) (n : Int) (N : Nat) (m : Int) (w : World) (hs : s.size < 4294967281) (hm : w.cell? ⟨1, 0, none⟩ = some (.int .i64 m)) (h1 : 1 ≤ sep.size) (hsv : sv ≤ sep.size) (hn0 : n ≠ 0) (hn63 : n ≤ 9223372036854775807) (hN : (N : Int) = min (if n < 0 then (Lib.countB s sep : Int) + 1 else n) ((s.size : Int) + 1)) :
    Calls Tryz.prog 248 #[.string s, .string sep, .int .i64 sv, .int .i64 n] w fun e w' =>
      e = .returned (.slice (some ⟨w.heap.size, 0, none⟩) (Lib.splitB sep sv (N - 1) s).length N) ∧ w' = w.alloc (.cells (Lib.cellsOf (Lib.splitB sep sv (N - 1) s) N) 9) := Any.strings_genSplit Tryz.lays221 (by kernel_rfl) s sep sv n N m w hs hm h1 hsv hn0 hn63 hN
end Go.Proofs

/-
  Texts: what strconv.Atoi, strings.CutPrefix, CutSuffix, Cut and SplitAfter answer, off the shelf's contracts.
-/
namespace Go.Proofs.YtfdkmmllemkogaaGreatDoor
open Go.RowKit
set_option linter.unusedVariables false
set_option linter.unusedSimpArgs false

theorem digVal_of {b : UInt8} (h : dgt (b.toNat : Int)) : Lib.digitVal b = some (b.toNat - 48) := by
  unfold Lib.digitVal; unfold dgt at h
  rw [if_pos ⟨by omega, by omega⟩]
theorem decFrom_dig (s : ByteArray) (h : digTo s s.size) : ∀ k, k ≤ s.size → Lib.decFrom 0 ((listB s).take k) = some (digV s k).toNat
  | 0, _ => rfl
  | k + 1, hk => by
    obtain ⟨b, hb, hbi⟩ := byteI_list (s := s) (k := k) (by omega)
    have hd := h k (by omega)
    rw [hbi] at hd
    have ih := decFrom_dig s h k (by omega)
    rw [Lib.decFrom_take (listB s) k 0 _ b _ ih hb (digVal_of hd)]
    have h0 := digV_nonneg (s := s) k (fun i hi => h i (by omega))
    unfold dgt at hd
    have e : digV s (k + 1) = 10 * digV s k + (byteI s k - 48) := rfl
    rw [e, hbi]
    congr 1
    omega
theorem atoi_nat {s : ByteArray} (h : natP s) : Lib.atoi s.data.toList = some (digV s s.size) := by
  obtain ⟨h1, h2, h3, h4⟩ := h
  have hd := decFrom_dig s h4 s.size (Nat.le_refl _)
  rw [List.take_of_length_le (by rw [listB_len]; exact Nat.le_refl _)] at hd
  have hn := digV_nonneg (s := s) s.size h4
  obtain ⟨b, hb, hbi⟩ := byteI_list (s := s) (k := 0) (by omega)
  have hb0 := h4 0 (by omega)
  rw [hbi] at hb0
  unfold dgt at hb0
  change Lib.atoi (listB s) = _
  cases hl : listB s with
  | nil => rw [hl] at hb; cases hb
  | cons c r =>
    rw [hl] at hb hd
    have : c = b := by simpa using hb
    subst this
    have e1 : (c == 45) = false := by
      rw [beq_eq_false_iff_ne]; rintro rfl; simp at hb0
    have e2 : (c == 43) = false := by
      rw [beq_eq_false_iff_ne]; rintro rfl; simp at hb0
    unfold Lib.atoi
    simp only [e1, e2, Bool.false_eq_true, if_false]
    unfold Lib.decNat
    simp only [List.isEmpty_cons, Bool.false_eq_true, if_false, hd, Option.map_some]
    congr 1; omega
theorem atoiC : AtoiC := fun s w h =>
  (Tryz.strconv_Atoi s _ (by have := h.2.1; omega) (atoi_nat h) w).mono fun e w' ⟨he, t, hw⟩ => ⟨he, by subst hw; exact Go.Joins.below_bytesWorld _ _ _ _ (Nat.le_refl _)⟩

open Classical in
theorem prefix_minus (s : ByteArray) : Lib.hasPrefix (listB s) [45] = decide (minusP s) := by
  rw [Bool.eq_iff_iff, decide_eq_true_iff]
  unfold minusP Lib.hasPrefix
  have hl := listB_len s
  cases hs : listB s with
  | nil => rw [hs] at hl; simp at hl ⊢; omega
  | cons b r =>
    rw [hs] at hl
    simp at hl
    obtain ⟨c, hc, hci⟩ := byteI_list (s := s) (k := 0) (by omega)
    rw [hs] at hc
    have : b = c := by simpa using hc
    subst this
    rw [hci]
    simp only [List.isPrefixOf, Bool.and_true, beq_iff_eq]
    constructor
    · rintro rfl; exact ⟨by omega, rfl⟩
    · rintro ⟨_, h⟩
      have h3 : b.toNat = 45 := by omega
      exact (UInt8.toNat_inj.1 h3).symm
theorem restB_list (s : ByteArray) : listB (restB s) = (listB s).drop 1 := by
  unfold restB; rw [listB_extract, List.take_of_length_le (by rw [listB_len]; exact Nat.le_refl _)]
open Classical in
theorem cutPrefixC : CutPrefixC := fun s w => by
  have h := Tryz.strings_CutPrefix s ⟨#[45]⟩ w
  have e1 : Lib.hasPrefix s.data.toList (⟨#[45]⟩ : ByteArray).data.toList = decide (minusP s) := prefix_minus s
  have e2 : Lib.trimPrefix s.data.toList (⟨#[45]⟩ : ByteArray).data.toList = if minusP s then (listB s).drop 1 else listB s := by
    unfold Lib.trimPrefix
    rw [e1]
    by_cases hm : minusP s
    · rw [if_pos hm, if_pos (by simpa using hm)]; rfl
    · rw [if_neg hm, if_neg (by simpa using hm)]; rfl
  rw [e1, e2] at h
  refine ⟨fun hm => ?_, fun hm => ?_⟩
  · rw [if_pos hm, decide_eq_true hm, ← restB_list] at h
    exact h.mono fun e w' ⟨he, hw⟩ => ⟨he.trans (by rw [show (⟨(listB (restB s)).toArray⟩ : ByteArray) = restB s from strB_listB _]), hw⟩
  · rw [if_neg hm, decide_eq_false hm] at h
    exact h.mono fun e w' ⟨he, hw⟩ => ⟨he.trans (by rw [show (⟨(listB s).toArray⟩ : ByteArray) = s from strB_listB _]), hw⟩
theorem cutSuffixC : CutSuffixC := fun s w hs =>
  (Tryz.strings_CutSuffix s ⟨#[10]⟩ w (by omega)).mono fun e w' ⟨he, hw⟩ => ⟨he, hw.symm⟩
theorem cutC : CutC := fun s w hs ⟨m, hm⟩ =>
  (Tryz.strings_Cut s ⟨#[32]⟩ m w (by omega) hm).mono fun e w' ⟨he, n, hw⟩ => ⟨he, by subst hw; exact below_drewN (Below.refl _ _) _⟩
end Go.Proofs.YtfdkmmllemkogaaGreatDoor

/-
  Texts: Lines of every text: the pieces with their ends, without an empty last one.
-/

namespace Go.Proofs.YtfdkmmllemkogaaGreatDoor
open Go.RowKit
set_option linter.unusedVariables false
set_option linter.unusedSimpArgs false

/-- All pieces but the last one, and the last one. -/
def headP (s : ByteArray) : List (List UInt8) := (pieces 10 (listB s)).dropLast
def lastP (s : ByteArray) : List UInt8 := (pieces 10 (listB s)).getLast?.getD []
theorem head_last (s : ByteArray) : pieces 10 (listB s) = headP s ++ [lastP s] := by
  obtain ⟨P, q, h⟩ := pieces_ex 10 (listB s)
  unfold headP lastP
  rw [h]; simp
theorem ended_snoc (c : UInt8) : ∀ (P : List (List UInt8)) (q : List UInt8), ended c (P ++ [q]) = P.map (· ++ [c]) ++ [q]
  | [], q => rfl
  | p :: P, q => by
    have ih := ended_snoc c P q
    show (if P ++ [q] = [] then [p] else (p ++ [c]) :: ended c (P ++ [q])) = _
    rw [if_neg (by simp), ih]; rfl
/-- The lines of a text. -/
def allL (s : ByteArray) : List ByteArray := (headP s).map (fun p => strB (p ++ [10])) ++ [strB (lastP s)]
def linesL (s : ByteArray) : List ByteArray := if (lastP s) = [] then (headP s).map (fun p => strB (p ++ [10])) else allL s
theorem listB_inj {a b : ByteArray} (h : listB a = listB b) : a = b := by rw [← strB_listB a, ← strB_listB b, h]
theorem map_listB_inj : ∀ {L M : List ByteArray}, L.map listB = M.map listB → L = M
  | [], [], _ => rfl
  | [], _ :: _, h => by simp at h
  | _ :: _, [], h => by simp at h
  | a :: L, b :: M, h => by
    rw [List.map_cons, List.map_cons] at h
    injection h with h1 h2
    rw [listB_inj h1, map_listB_inj h2]
theorem split_all (s : ByteArray) : Lib.splitB ⟨#[10]⟩ 1 (Lib.countB s ⟨#[10]⟩) s = allL s := by
  apply map_listB_inj
  have h1 := Lib.splitB_data ⟨#[10]⟩ 1 (Lib.countB s ⟨#[10]⟩) s
  have h2 := lines_pieces 10 (Lib.countB s ⟨#[10]⟩) (listB s) rfl
  have h3 : (Lib.splitB ⟨#[10]⟩ 1 (Lib.countB s ⟨#[10]⟩) s).map listB = Lib.splitK [10] 1 (Lib.countB s ⟨#[10]⟩) (listB s) := h1
  rw [h3, h2, head_last, ended_snoc]
  unfold allL
  rw [List.map_append, List.map_map]; rfl
theorem allL_len (s : ByteArray) : (allL s).length = (headP s).length + 1 := by unfold allL; simp
theorem headP_len (s : ByteArray) : (headP s).length ≤ s.size := by
  have h1 := (splitL_len s 10).2
  have h2 := congrArg List.length (splitL_pieces s 10)
  rw [List.length_map, head_last, List.length_append] at h2
  have h3 : ((10 : UInt8).toNat : Int) = 10 := rfl
  rw [h3] at h2
  simp at h2; omega
theorem count_head (s : ByteArray) : Lib.countB s ⟨#[10]⟩ = (headP s).length := by
  have h := congrArg List.length (split_all s)
  rw [Lib.splitB_all ⟨#[10]⟩ (by decide) 1 _ s rfl, allL_len] at h
  omega
/-- What Lines answers. -/
def LinesV (w : World) (s : ByteArray) (e : Ending) (w' : World) : Prop :=
  ∃ (c : Nat) (cs : Array Value), e = .returned (.slice (some ⟨w.heap.size, 0, none⟩) (linesL s).length c) ∧ w'.heap[w.heap.size]? = some (.cells cs 9 (0, 0)) ∧ (∀ (j : Nat) (x : ByteArray), (linesL s)[j]? = some x → cs[j]? = some (Value.string x)) ∧ Below w.heap.size w w'

set_option maxRecDepth 100000 in
set_option maxHeartbeats 1600000 in
theorem splitAfter_any (s : ByteArray) (w : World) (hs : s.size ≤ 1000001) (hm : MaxAt w) :
    Calls Tryz.prog 237 #[.string s, .string ⟨#[10]⟩] w fun e w' => e = .returned (.slice (some ⟨w.heap.size, 0, none⟩) ((headP s).length + 1) ((headP s).length + 1)) ∧ w' = w.alloc (.cells ((allL s).map Value.string).toArray 9) := by
  obtain ⟨m, hm⟩ := hm
  have hle := headP_len s
  have c := Tryz.strings_genSplit s ⟨#[10]⟩ 1 (-1) ((headP s).length + 1) m w (by omega) hm (by decide) (by decide) (by decide) (by decide) (by rw [if_pos (by decide), count_head]; omega)
  rw [Nat.add_sub_cancel, ← count_head, split_all, allL_len, count_head] at c
  have e2 : Lib.cellsOf (allL s) ((headP s).length + 1) = ((allL s).map Value.string).toArray := by rw [← allL_len]; exact Lib.cellsOf_full _
  rw [e2] at c
  have K := Lib.hid c
  clear c hle e2 hm
  go_enter Tryz.func237, Tryz.ntmps237
  go_wp2_with fail
  refine K.out.mono ?_
  rintro e w1 ⟨rfl, rfl⟩
  go_wp2
  go_ret
  exact ⟨rfl, rfl⟩

set_option maxRecDepth 100000 in
set_option maxHeartbeats 1600000 in
theorem lines_any (s : ByteArray) (w : World) (hs : s.size ≤ 1000001) (hm : MaxAt w) :
    Calls Tryz.prog 220 #[.string s] w (LinesV w s) := by
  have K := Lib.hid (splitAfter_any s w hs hm)
  have hle := headP_len s
  have hlast : ((allL s).map Value.string).toArray[(headP s).length]? = some (.string (strB (lastP s))) := by
    unfold allL; simp
  have hemp := empty_list (strB (lastP s))
  have hcs : ∀ (j : Nat) (x : ByteArray), (linesL s)[j]? = some x → ((allL s).map Value.string).toArray[j]? = some (Value.string x) := by
    intro j x h
    rw [List.getElem?_toArray, List.getElem?_map]
    unfold linesL at h
    split at h
    · unfold allL
      rw [List.getElem?_append_left (List.getElem?_eq_some_iff.1 h).1, h]; rfl
    · rw [h]; rfl
  have hll : (linesL s).length = if lastP s = [] then (headP s).length else (headP s).length + 1 := by
    unfold linesL
    split
    · rw [List.length_map]
    · rw [allL_len]
  have HCS := Lib.hid hcs
  obtain ⟨n, hn⟩ : ∃ n, (headP s).length = n := ⟨_, rfl⟩
  obtain ⟨CS, hCS⟩ : ∃ CS, ((allL s).map Value.string).toArray = CS := ⟨_, rfl⟩
  obtain ⟨q, hq⟩ : ∃ q, lastP s = q := ⟨_, rfl⟩
  rw [hn] at hle hlast hll K
  rw [hq] at hlast hemp hll
  rw [hCS] at hlast K HCS
  rw [strB_size] at hemp
  have HLL := Lib.hid hll
  clear hm hcs hll hn hCS hq
  have hcell : (w.alloc (.cells CS 9)).cell? ⟨w.heap.size, n, none⟩ = some (.string (strB q)) := by
    rw [cell_of_row _ w.heap.size n CS _ (0, 0) (heap_alloc_new w _)]; exact hlast
  obtain ⟨W0, hW0⟩ : ∃ W0, w.alloc (.cells CS 9) = W0 := ⟨_, rfl⟩
  have hblk : W0.heap[w.heap.size]? = some (.cells CS 9 (0, 0)) := by rw [← hW0]; exact heap_alloc_new w _
  have hB : Below w.heap.size w W0 := by rw [← hW0]; exact (Below.refl _ w).alloc (Nat.le_refl _) _
  rw [hW0] at K hcell
  have HB := Lib.hid hB
  have HBK := Lib.hid hblk
  clear hlast hblk hB hW0
  by_cases hqe : q = []
  · have hl : (linesL s).length = n := by rw [HLL.out, if_pos hqe]
    have HL := Lib.hid hl
    rw [hqe] at hemp
    have he : (strB q).toList.isEmpty = true := by rw [hqe]; simpa using hemp
    clear hl hemp hqe
    go_enter Tryz.func220, Tryz.ntmps220
    go_wp2_with fail
    refine K.out.mono ?_
    rintro e w1 ⟨rfl, rfl⟩
    go_wp2
    go_ret
    exact ⟨n + 1, CS, by rw [HL.out]; rfl, HBK.out, HCS.out, HB.out⟩
  · have hl : (linesL s).length = n + 1 := by rw [HLL.out, if_neg hqe]
    have HL := Lib.hid hl
    have he : (strB q).toList.isEmpty = false := by
      rw [hemp]; apply decide_eq_false; intro h; exact hqe (List.eq_nil_of_length_eq_zero h)
    clear hl hemp hqe
    go_enter Tryz.func220, Tryz.ntmps220
    go_wp2_with fail
    refine K.out.mono ?_
    rintro e w1 ⟨rfl, rfl⟩
    go_wp2
    go_ret
    exact ⟨n + 1, CS, by rw [HL.out]; rfl, HBK.out, HCS.out, HB.out⟩
end Go.Proofs.YtfdkmmllemkogaaGreatDoor

/-
  Texts: ReadLines of every text, whatever the function is that reads a line (with three captured places): it is called for each line up to the first one with an error.
-/

namespace Go.Proofs.YtfdkmmllemkogaaGreatDoor
open Go.RowKit
set_option linter.unusedVariables false
set_option linter.unusedSimpArgs false

/-- All blocks of strings are kept, but for the captured places. -/
def KeepT (p1 p2 p3 : Nat) (w w' : World) : Prop := ∀ (k : Nat) (cs : Array Value), k ≠ p1 → k ≠ p2 → k ≠ p3 → w.heap[k]? = some (.cells cs 9 (0, 0)) → w'.heap[k]? = some (.cells cs 9 (0, 0))
/-- What ReadLines answers: the index of the first line with an error and this error, or how many lines there are. -/
def ReadLinesV (n : Nat) (er : Nat → Int) (I : Nat → World → Prop) (e : Ending) (w' : World) : Prop :=
  ∃ k, k ≤ n ∧ (∀ j, j < k → er j = 0) ∧ ((k < n ∧ er k ≠ 0 ∧ e = .returned (.tuple #[.int .i64 k, .int .i64 (er k)]) ∧ I (k + 1) w') ∨ (k = n ∧ e = .returned (.tuple #[.int .i64 n, .int .i64 0]) ∧ I n w'))
theorem readLines_end {n : Nat} {er : Nat → Int} {I : Nat → World → Prop} {w' : World} (h : ∀ j, j < n → er j = 0) (hI : I n w') : ReadLinesV n er I (.returned (.tuple #[.int .i64 n, .int .i64 0])) w' := ⟨n, Nat.le_refl _, h, .inr ⟨rfl, rfl, hI⟩⟩
theorem readLines_bad {n k : Nat} {er : Nat → Int} {I : Nat → World → Prop} {w' : World} {v : Int} (h : ∀ j, j < k → er j = 0) (hk : k < n) (hv : er k = v) (he : v ≠ 0) (hI : I (k + 1) w') : ReadLinesV n er I (.returned (.tuple #[.int .i64 k, .int .i64 v])) w' := ⟨k, Nat.le_of_lt hk, h, .inl ⟨hk, by rw [hv]; exact he, by rw [hv], hI⟩⟩

theorem linesL_len (s : ByteArray) : (linesL s).length ≤ s.size + 1 := by
  have h := headP_len s
  unfold linesL
  split
  · rw [List.length_map]; omega
  · rw [allL_len]; omega

set_option maxRecDepth 100000 in
set_option maxHeartbeats 3200000 in
theorem readLines_any (F : FuncId) (s : ByteArray) (most : Int) (w : World) (hs : s.size ≤ 1000001) (hmost : (s.size : Int) ≤ most) (hmost2 : most ≤ 1000000) (hm : MaxAt w) (p1 p2 p3 : Nat) (er : Nat → Int) (I : Nat → World → Prop)
    (hI : ∀ i W W', I i W → Below W.heap.size W W' → I i W') (h0 : I 0 w)
    (hbody : ∀ (i : Nat) (x : ByteArray) (W : World), (linesL s)[i]? = some x → I i W → Calls Tryz.prog F #[.int .i64 i, .string x, .pointer (some ⟨p1, 0, none⟩), .pointer (some ⟨p2, 0, none⟩), .pointer (some ⟨p3, 0, none⟩)] W fun e W' => e = .returned (.int .i64 (er i)) ∧ I (i + 1) W' ∧ KeepT p1 p2 p3 W W')
    (hp1 : p1 < w.heap.size) (hp2 : p2 < w.heap.size) (hp3 : p3 < w.heap.size)
    (hF : ∀ args w, (callFunc F args).run Tryz.prog w = .ok (.enter F args) w) :
    Calls Tryz.prog 187 #[.string s, .int .i64 most, .func (.func F) #[] #[.pointer (some ⟨p1, 0, none⟩), .pointer (some ⟨p2, 0, none⟩), .pointer (some ⟨p3, 0, none⟩)]] w (ReadLinesV (linesL s).length er I) := by
  have KL := Lib.hid (lines_any s w hs hm)
  have KB := Lib.hid hbody
  have KI := Lib.hid hI
  have K0 := Lib.hid h0
  have hlen := linesL_len s
  clear hbody hI h0 hm
  obtain ⟨L, hL⟩ : ∃ L, linesL s = L := ⟨_, rfl⟩
  unfold LinesV at KL
  rw [hL] at KL KB hlen ⊢
  clear hL
  obtain ⟨n, hn⟩ : ∃ n, L.length = n := ⟨_, rfl⟩
  have HN := Lib.hid hn
  rw [hn] at KL hlen ⊢
  clear hn
  go_enter Tryz.func187, Tryz.ntmps187
  go_wp2_with fail
  refine KL.out.mono ?_
  rintro e w1 ⟨c, cs, rfl, hblk, hcs, hb1⟩
  have HBK := Lib.hid hblk
  have HCS := Lib.hid hcs
  have K1 := Lib.hid (KI.out 0 w w1 K0.out hb1)
  have hlt1 : w.heap.size < w1.heap.size := (Array.getElem?_eq_some_iff.1 hblk).1
  clear hblk hcs hb1
  go_wp2
  go_loopw [20] (fun i wr => ∃ k : Nat, k ≤ n ∧ i = .int .i64 k ∧ Hid (∀ j, j < k → er j = 0) ∧ Hid (I k wr) ∧ Hid (wr.heap[w.heap.size]? = some (.cells cs 9 (0, 0))))
    (fun i _ => n - (intOf i).toNat)
  case atStart => exact ⟨0, Nat.zero_le _, rfl, Lib.hid (fun j h => by omega), K1, HBK⟩
  case round =>
    obtain ⟨k, hk, rfl, hz, hik, hbk⟩ := hrel
    by_cases hlt : k < n
    · obtain ⟨x, hx⟩ : ∃ x, L[k]? = some x := ⟨L[k]'(by rw [HN.out]; exact hlt), List.getElem?_eq_getElem _⟩
      have hcell : wr.cell? ⟨w.heap.size, k, none⟩ = some (.string x) := by
        rw [cell_of_row wr w.heap.size k cs _ (0, 0) hbk.out]; exact HCS.out k x hx
      have KK := Lib.hid (KB.out k x wr hx hik.out)
      obtain ⟨v, hv⟩ : ∃ v, er k = v := ⟨_, rfl⟩
      have HV := Lib.hid hv
      rw [hv] at KK
      clear hx hv
      by_cases hv0 : v = 0
      · have hz' := Lib.hid (show ∀ j, j < k + 1 → er j = 0 from fun j h => by
          by_cases e : j = k
          · subst e; rw [HV.out]; exact hv0
          · exact hz.out j (by omega))
        have ev : (v != 0) = false := by simp [hv0]
        clear hv0
        go_wp2_with fail
        refine KK.out.mono ?_
        rintro e w2 ⟨rfl, hi2, hkt⟩
        have hi2 := Lib.hid hi2
        have hbk2 := Lib.hid (hkt _ _ (by omega) (by omega) (by omega) hbk.out)
        clear hkt
        go_wp2
        go_roundw
        case rel => exact ⟨k + 1, by omega, by go_num, hz', hi2, hbk2⟩
        case measure => first | (simp [intOf]; done) | (simp [intOf]; omega)
      · have ev : (v != 0) = true := by simp [hv0]
        have HV0 := Lib.hid hv0
        clear hv0
        go_wp2_with fail
        refine KK.out.mono ?_
        rintro e w2 ⟨rfl, hi2, hkt⟩
        have hi2 := Lib.hid hi2
        clear hkt
        go_wp2
        go_ret2
        exact readLines_bad hz.out hlt HV.out HV0.out hi2.out
    · obtain rfl : k = n := by omega
      go_wp2
      go_ret2
      exact readLines_end hz.out hik.out
end Go.Proofs.YtfdkmmllemkogaaGreatDoor

/-
  Texts: maps with known entries; the forms of lines; a line of a map, read.
-/
namespace Go.Proofs.YtfdkmmllemkogaaGreatDoor
open Go.RowKit
set_option linter.unusedVariables false
set_option linter.unusedSimpArgs false

theorem run_lookup_str {P : Program} {w : World} {mty kt et : TypeId} {r clock i : Nat} {es : Array MapEntry} {s : ByteArray} {v : Value} (hm : P.underlying mty = some (.map kt et)) (hk : P.underlying kt = some .string)
    (hb : w.heap[r]? = some (.map es clock)) (hf : Instr.findNow .string (.string s) es.toList 0 = some (some (i, v))) : (Instr.lookup mty (.map (some r)) (.string s) false).run P w = .ok v w := by
  have hc : (Instr.checkKey es.isEmpty 10000 kt (.string s)).run P w = .ok () w := MapKept.run_checkKey (k := .string s) hk (by simp [MapKept.IsKey]) _ 9999
  simp [Instr.lookup, run_underlying hm, MapKept.run_getObj_map hb, hc, MapKept.run_findKey hk hf, Result.andThen]
theorem run_insert_str {P : Program} {w : World} {mty kt et : TypeId} {r clock : Nat} {es : Array MapEntry} {s : ByteArray} {val : Value} (hm : P.underlying mty = some (.map kt et)) (hk : P.underlying kt = some .string)
    (hb : w.heap[r]? = some (.map es clock)) (hf : Instr.findNow .string (.string s) es.toList 0 = some none) :
    (Instr.mapUpdate mty (.map (some r)) (.string s) val).run P w = .ok () { w with heap := w.heap.setIfInBounds r (.map (es.push { key := .string s, val := val, born := clock }) (clock + 1)) } := by
  have hc : (Instr.checkKey false 10000 kt (.string s)).run P w = .ok () w := MapKept.run_checkKey (k := .string s) hk (by simp [MapKept.IsKey]) false 9999
  simp [Instr.mapUpdate, run_underlying hm, MapKept.run_getObj_map hb, hc, MapKept.run_findKey hk hf, MapKept.run_setObj_map _ hb, Result.andThen]

/-- The form of the first line, and that of the others. -/
def formV (j : Nat) : Value := if j = 0 then .agg #[.func (.func 218) #[] #[]] else .agg #[.func (.func 219) #[] #[]]
def kindW (j : Nat) : ByteArray := if j = 0 then mapW else rowW
def formsE : Array MapEntry := #[{ key := .string mapW, val := formV 0, born := 0 }, { key := .string rowW, val := formV 1, born := 1 }]

theorem below_setBlk {w : World} {r : Nat} {o : Obj} (h : w.heap.size ≤ r + 1) : Below r w { w with heap := w.heap.setIfInBounds r o } :=
  ⟨rfl, rfl, rfl, by simp, fun k hk => by
    show (w.heap.setIfInBounds r o)[k]? = _
    rw [Array.getElem?_setIfInBounds, if_neg (by omega)]⟩

set_option maxRecDepth 100000 in
set_option maxHeartbeats 1600000 in
theorem lineForms_any (w : World) :
    Calls Tryz.prog 186 #[] w fun e w' => e = .returned (.map (some w.heap.size)) ∧ w'.heap[w.heap.size]? = some (.map formsE 2) ∧ Below w.heap.size w w' := by
  have hm : Tryz.prog.underlying 245 = some (.map 9 252) := Tryz.underlying245
  have hk : Tryz.prog.underlying 9 = some .string := Tryz.underlying9
  have m0 := fun w => run_makeMap (P := Tryz.prog) 245 w
  obtain ⟨W1, hW1⟩ : ∃ W1, w.alloc (.map #[] 0) = W1 := ⟨_, rfl⟩
  have hb1 : W1.heap[w.heap.size]? = some (.map #[] 0) := by rw [← hW1]; exact heap_alloc_new w _
  have hB1 : Below w.heap.size w W1 := by rw [← hW1]; exact (Below.refl _ w).alloc (Nat.le_refl _) _
  have hs1 : W1.heap.size = w.heap.size + 1 := by rw [← hW1]; simp
  have u1 := run_insert_str (val := formV 0) (s := mapW) hm hk hb1 rfl
  obtain ⟨W2, hW2⟩ : ∃ W2 : World, { W1 with heap := W1.heap.setIfInBounds w.heap.size (.map (#[].push { key := .string mapW, val := formV 0, born := 0 }) (0 + 1)) } = W2 := ⟨_, rfl⟩
  have hb2 : W2.heap[w.heap.size]? = some (.map #[{ key := .string mapW, val := formV 0, born := 0 }] 1) := by rw [← hW2]; exact (MapKept.heap_set hb1).1
  have hB2 : Below w.heap.size W1 W2 := by rw [← hW2]; exact below_setBlk (by omega)
  have hs2 : W2.heap.size = w.heap.size + 1 := by rw [← hW2]; simpa using hs1
  rw [hW2] at u1
  have u2 := run_insert_str (val := formV 1) (s := rowW) hm hk hb2 rfl
  obtain ⟨W3, hW3⟩ : ∃ W3 : World, { W2 with heap := W2.heap.setIfInBounds w.heap.size (.map ((#[{ key := .string mapW, val := formV 0, born := 0 }] : Array MapEntry).push { key := .string rowW, val := formV 1, born := 1 }) (1 + 1)) } = W3 := ⟨_, rfl⟩
  have hb3 : W3.heap[w.heap.size]? = some (.map formsE 2) := by rw [← hW3]; exact (MapKept.heap_set hb2).1
  have hB3 : Below w.heap.size W2 W3 := by rw [← hW3]; exact below_setBlk (by omega)
  rw [hW3] at u2
  have HB := Lib.hid ((hB1.trans hB2).trans hB3)
  have HK := Lib.hid hb3
  unfold formV mapW at u1
  unfold formV rowW at u2
  simp only [if_true, Nat.one_ne_zero, if_false] at u1 u2
  clear hb1 hB1 hs1 hW2 hb2 hB2 hs2 hW3 hb3 hB3
  go_enter Tryz.func186, Tryz.ntmps186
  go_wp2
  try rw [hW1]
  go_wp2
  go_ret
  exact ⟨rfl, HK.out, HB.out⟩
end Go.Proofs.YtfdkmmllemkogaaGreatDoor

/-
  Texts: a line of a map's text, read: every line, as the first one and as a later one.
-/

namespace Go.Proofs.YtfdkmmllemkogaaGreatDoor
open Go.RowKit
set_option linter.unusedVariables false
set_option linter.unusedSimpArgs false

set_option maxRecDepth 100000 in
set_option maxHeartbeats 1600000 in
theorem integers_any (g : Nat) (rest : ByteArray) (more : Bool) (w : World) (hs : rest.size ≤ 1000001) (hm : MaxAt w) (h : WordsBlk w g rest more) :
    Calls Tryz.prog 222 #[.func (.func 223) #[.pointer (some ⟨g, 0, none⟩)] #[]] w (ReadV w g (wordsL rest more)) := by
  have K := Lib.hid (readWords_any cutC atoiC cutPrefixC g rest more w hs hm h)
  clear hm h hs
  go_enter Tryz.func222, Tryz.ntmps222
  go_wp2_with fail
  refine K.out.mono ?_
  rintro e w1 ⟨u, rfl, h1, h2, h3⟩
  have H : Hid (ReadV w g (wordsL rest more) (.returned (.tuple #[u, .bool (intsB (wordsL rest more))])) w1) := Lib.hid ⟨u, rfl, h1, h2, h3⟩
  clear h1 h2 h3
  obtain ⟨b, hb⟩ : ∃ b, intsB (wordsL rest more) = b := ⟨_, rfl⟩
  rw [hb] at H ⊢
  clear hb
  go_wp2
  go_ret2
  exact H.out

/-- How many integers fit a line. -/
def fitsB (j n : Nat) : Bool := if j = 0 then decide (n = 2) else decide (1 ≤ n)
theorem fits_first (n : Nat) (w : World) : Calls Tryz.prog 218 #[.int .i64 n] w fun e w' => e = .returned (.bool (fitsB 0 n)) ∧ w = w' := by
  by_cases h : n = 2
  · have e : ((n : Int) == 2) = true := by simp [h]
    have H := Lib.hid (show fitsB 0 n = true from decide_eq_true h)
    clear h
    go_enter Tryz.func218, Tryz.ntmps218
    go_wp2
    go_ret
    exact ⟨by rw [H.out]; rfl, rfl⟩
  · have e : ((n : Int) == 2) = false := by simp; omega
    have H := Lib.hid (show fitsB 0 n = false from decide_eq_false h)
    clear h
    go_enter Tryz.func218, Tryz.ntmps218
    go_wp2
    go_ret
    exact ⟨by rw [H.out]; rfl, rfl⟩
theorem fits_next (j n : Nat) (hj : j ≠ 0) (w : World) : Calls Tryz.prog 219 #[.int .i64 n] w fun e w' => e = .returned (.bool (fitsB j n)) ∧ w = w' := by
  have hf : fitsB j n = decide (1 ≤ n) := by unfold fitsB; rw [if_neg hj]
  by_cases h : 1 ≤ n
  · have e : decide ((1 : Int) ≤ (n : Int)) = true := by simp; omega
    have H := Lib.hid (show fitsB j n = true by rw [hf]; exact decide_eq_true h)
    clear hf hj
    go_enter Tryz.func219, Tryz.ntmps219
    go_wp2
    go_ret
    exact ⟨by rw [H.out]; rfl, rfl⟩
  · obtain rfl : n = 0 := by omega
    have H := Lib.hid (show fitsB j 0 = false by rw [hf]; rfl)
    clear hf hj h
    go_enter Tryz.func219, Tryz.ntmps219
    go_wp2
    go_ret
    exact ⟨by rw [H.out]; rfl, rfl⟩

/-- The words behind the first one. -/
def tailL (s : ByteArray) : List (List UInt8) := wordsL (strB (headL s).2.1) (headL s).2.2
/-- The line has the form of that with an index. -/
noncomputable def okL (j : Nat) (s : ByteArray) : Bool := lineOk s (kindW j) && (intsB (tailL s) && fitsB j (tailL s).length)
/-- What readLine answers. -/
def ReadLineV (w : World) (j : Nat) (s : ByteArray) (e : Ending) (w' : World) : Prop :=
  ∃ a n c, e = .returned (.tuple #[.slice a n c, .bool (okL j s)]) ∧ (okL j s = true → w'.ownsRow w.heap.size 3 1 (.slice a n c) (tailL s).length ((intsV (tailL s)).map (Value.int .i64))) ∧ Below w.heap.size w w'
theorem readLine_no {w w' : World} {j : Nat} {s : ByteArray} {a : Option Addr} {n c : Nat} (h : okL j s = false) (hb : Below w.heap.size w w') : ReadLineV w j s (.returned (.tuple #[.slice a n c, .bool false])) w' :=
  ⟨a, n, c, by rw [h], fun h' => (by rw [h] at h'; cases h'), hb⟩
theorem readLine_yes {w w' : World} {j : Nat} {s : ByteArray} {a : Option Addr} {n c : Nat} (h : okL j s = true) (ho : w'.ownsRow w.heap.size 3 1 (.slice a n c) (tailL s).length ((intsV (tailL s)).map (Value.int .i64))) (hb : Below w.heap.size w w') : ReadLineV w j s (.returned (.tuple #[.slice a n c, .bool true])) w' :=
  ⟨a, n, c, by rw [h], fun _ => ho, hb⟩
theorem owns_shape {w : World} {B T sz n : Nat} {v : Value} {xs : List Value} (h : w.ownsRow B T sz v n xs) : ∃ a c, v = .slice a n c := by
  rcases h.2 with ⟨h, h0⟩ | ⟨g, cap, cur, h, _⟩
  · exact ⟨none, 0, by rw [h, h0]⟩
  · exact ⟨_, cap, h⟩
theorem head_le (s : ByteArray) : (strB (headL s).2.1).size ≤ s.size := by
  have h1 := trim_le s
  have h2 := (cut_sizes (bodyL s)).2
  rw [strB_size] at h1 ⊢
  unfold headL; omega

set_option maxRecDepth 100000 in
set_option maxHeartbeats 6400000 in
theorem readLine_any (j : Nat) (s : ByteArray) (w : World) (hs : s.size ≤ 1000001) (hm : MaxAt w) :
    Calls Tryz.prog 189 #[.string s, .string (kindW j), formV j] w (ReadLineV w j s) := by
  have KW : Hid (∀ W, Below w.heap.size w W → Calls Tryz.prog 221 #[.string s, .string (kindW j)] W (WordsOfV W s (kindW j))) := Lib.hid fun W hb => wordsOf_any cutC cutSuffixC s _ W hs (hm.on hb)
  have KI : Hid (∀ (g : Nat) W, Below w.heap.size w W → WordsBlk W g (strB (headL s).2.1) (headL s).2.2 → Calls Tryz.prog 222 #[.func (.func 223) #[.pointer (some ⟨g, 0, none⟩)] #[]] W (ReadV W g (tailL s))) :=
    Lib.hid fun g W hb h => integers_any g _ _ W (Nat.le_trans (head_le s) hs) (hm.on hb) h
  have HF : Hid (∀ n w, Calls Tryz.prog (if j = 0 then 218 else 219) #[.int .i64 (n : Nat)] w fun e w' => e = .returned (.bool (fitsB j n)) ∧ w = w') := Lib.hid fun n w => by
    by_cases h : j = 0
    · subst h; exact fits_first n w
    · rw [if_neg h]; exact fits_next j n h w
  have hent : ∀ args w, (callFunc (if j = 0 then 218 else 219) args).run Tryz.prog w = .ok (.enter (if j = 0 then 218 else 219) args) w := by
    by_cases h : j = 0
    · simp only [h, if_true]; exact enters_of Tryz.func218 (by kernel_rfl) rfl
    · simp only [h, if_false]; exact enters_of Tryz.func219 (by kernel_rfl) rfl
  have hok : okL j s = (lineOk s (kindW j) && (intsB (tailL s) && fitsB j (tailL s).length)) := rfl
  obtain ⟨F, hF⟩ : ∃ F, (if j = 0 then 218 else 219) = F := ⟨_, rfl⟩
  have hfv : formV j = .agg #[.func (.func F) #[] #[]] := by
    rw [← hF]; unfold formV; split <;> rfl
  rw [hF] at HF hent
  rw [hfv]
  have HOK := Lib.hid hok
  have hlenI : (tailL s).length ≤ 1000002 := by
    unfold tailL wordsL; split
    · have h1 := (splitL_len (strB (headL s).2.1) 32).2
      have h2 := congrArg List.length (splitL_pieces (strB (headL s).2.1) 32)
      rw [List.length_map] at h2
      have h3 : ((32 : UInt8).toNat : Int) = 32 := rfl
      rw [h3] at h2
      have := head_le s; omega
    · simp
  obtain ⟨K, hK⟩ : ∃ K, kindW j = K := ⟨_, rfl⟩
  rw [hK] at KW HOK ⊢
  clear hok hF hfv hK hm
  cases hl : lineOk s K
  · have HL := Lib.hid hl
    have HN := Lib.hid (show okL j s = false by rw [HOK.out, hl]; rfl)
    clear hl
    go_enter Tryz.func189, Tryz.ntmps189
    go_wp2_with fail
    refine (KW.out _ ((Below.refl _ w).alloc (Nat.le_refl _) _)).mono ?_
    rintro e w1 ⟨-, h2, hb1⟩
    rw [h2 HL.out]
    have HB := Lib.hid (((Below.refl _ w).alloc (Nat.le_refl _) _).trans (hb1.mono (by simp)))
    clear h2 hb1
    have hsz := HB.out.size
    go_wp2
    go_ret2
    exact readLine_no HN.out (HB.out.alloc hsz _)
  · have HL := Lib.hid hl
    obtain ⟨R, hR⟩ : ∃ R, strB (headL s).2.1 = R := ⟨_, rfl⟩
    obtain ⟨M, hM⟩ : ∃ M, (headL s).2.2 = M := ⟨_, rfl⟩
    rw [hR, hM] at KI
    have HRM := Lib.hid (And.intro hR hM)
    clear hl hR hM
    cases hi : intsB (tailL s)
    · have HI := Lib.hid hi
      have HN := Lib.hid (show okL j s = false by rw [HOK.out, HL.out, hi]; rfl)
      clear hi
      go_enter Tryz.func189, Tryz.ntmps189
      go_wp2_with fail
      refine (KW.out _ ((Below.refl _ w).alloc (Nat.le_refl _) _)).mono ?_
      rintro e w1 ⟨h1, -, hb1⟩
      rw [h1 HL.out, HRM.out.1, HRM.out.2]
      have HB := Lib.hid (((Below.refl _ w).alloc (Nat.le_refl _) _).trans (hb1.mono (by simp)))
      have cF : w1.cell? ⟨w.heap.size, 0, none⟩ = some (.func (.func F) #[] #[]) := by rw [hb1.cell (by simp)]; simp [go_sem]
      have hs1 : w.heap.size + 1 ≤ w1.heap.size := by have := hb1.size; simpa using this
      clear h1 hb1
      go_wp2_with fail
      refine (KI.out _ _ (HB.out.alloc (by omega) _) (heap_alloc_new w1 _)).mono ?_
      rintro e w2 ⟨u, rfl, h1, h2, h3⟩
      rw [h2 HI.out, HI.out]
      have HB2 : Hid (Below w.heap.size w w2) := Lib.hid ((HB.out.alloc (by omega) _).trans ((h3.mono (by simp; omega)).below (by omega)))
      clear h1 h2 h3
      go_wp2
      go_ret2
      exact readLine_no HN.out HB2.out
    · have HI := Lib.hid hi
      obtain ⟨b, hb⟩ : ∃ b, fitsB j (tailL s).length = b := ⟨_, rfl⟩
      have hok2 : okL j s = b := by rw [HOK.out, HL.out, hi, hb]; rfl
      have HO2 := Lib.hid hok2
      have HFF := Lib.hid (fun W => HF.out (tailL s).length W)
      rw [hb] at HFF
      clear hi hb hok2
      go_enter Tryz.func189, Tryz.ntmps189
      go_wp2_with fail
      refine (KW.out _ ((Below.refl _ w).alloc (Nat.le_refl _) _)).mono ?_
      rintro e w1 ⟨h1, -, hb1⟩
      rw [h1 HL.out, HRM.out.1, HRM.out.2]
      have HB := Lib.hid (((Below.refl _ w).alloc (Nat.le_refl _) _).trans (hb1.mono (by simp)))
      have cF : w1.cell? ⟨w.heap.size, 0, none⟩ = some (.func (.func F) #[] #[]) := by rw [hb1.cell (by simp)]; simp [go_sem]
      have hs1 : w.heap.size + 1 ≤ w1.heap.size := by have := hb1.size; simpa using this
      clear h1 hb1
      go_wp2_with fail
      refine (KI.out _ _ (HB.out.alloc (by omega) _) (heap_alloc_new w1 _)).mono ?_
      rintro e w2 ⟨u, rfl, h1, h2, h3⟩
      rw [HI.out]
      have hu := h1 HI.out
      obtain ⟨a, c, rfl⟩ := owns_shape hu
      have HU : Hid (w2.ownsRow w.heap.size 3 1 (.slice a (tailL s).length c) (tailL s).length ((intsV (tailL s)).map (Value.int .i64))) := Lib.hid (owns_base hu (by simp; omega))
      have HB2 : Hid (Below w.heap.size w w2) := Lib.hid ((HB.out.alloc (by omega) _).trans ((h3.mono (by simp; omega)).below (by omega)))
      have cF2 : w2.cell? ⟨w.heap.size, 0, none⟩ = some (.func (.func F) #[] #[]) := by
        rw [World.cell?_of_block (h3.block w.heap.size (by simp; omega) (by omega)), World.cell?_of_block (Below.heap_alloc w1 _ w.heap.size (by omega))]
        exact cF
      have hs2 : w1.heap.size ≤ w2.heap.size := by have := h3.size; simp at this; omega
      clear h1 h2 h3 hu cF
      obtain ⟨n, hn⟩ : ∃ n, (tailL s).length = n := ⟨_, rfl⟩
      rw [hn] at hlenI HFF ⊢
      have HNN := Lib.hid hn
      clear hn
      cases b
      · go_wp2_with fail
        refine (HFF.out _).mono ?_
        rintro e w3 ⟨rfl, rfl⟩
        go_wp2
        go_ret2
        exact readLine_no HO2.out HB2.out
      · go_wp2_with fail
        refine (HFF.out _).mono ?_
        rintro e w3 ⟨rfl, rfl⟩
        go_wp2
        go_ret2
        exact readLine_yes HO2.out (by rw [← HNN.out]; exact HU.out) HB2.out
end Go.Proofs.YtfdkmmllemkogaaGreatDoor

/-
  Texts: what the function that reads a line of a map's text keeps: the rows so far, the kind of the next line.
-/
namespace Go.Proofs.YtfdkmmllemkogaaGreatDoor
open Go.RowKit
set_option linter.unusedVariables false
set_option linter.unusedSimpArgs false

theorem own_apart {w : World} {B e sz n k : Nat} {v : Value} {xs : List Value} {o : Obj} (h : w.ownsRow B e sz v n xs) (hk : w.heap[k]? = some o) (ho : ∀ cs, o ≠ .cells cs e (0, 0)) : some k ≠ v.ownBlock := by
  rcases h.2 with ⟨rfl, _⟩ | ⟨g, cap, cur, rfl, _, hg, _⟩
  · simp [Value.ownBlock]
  · intro e'
    have : k = g := by simpa [Value.ownBlock] using e'
    subst this
    rw [hg] at hk
    exact ho _ (Option.some.inj hk).symm
theorem boxed_apart {w : World} {B e sz n k t : Nat} {v u : Value} {xs : List Value} (h : w.ownsRow B e sz v n xs) (hk : Boxed w k t u) (ht : t ≠ e) : some k ≠ v.ownBlock :=
  own_apart h hk (fun cs e' => by injection e' with _ h2; exact ht h2)

theorem own_other {w : World} {B B' e1 e2 s1 s2 n1 n2 : Nat} {v1 v2 : Value} {x1 x2 : List Value} (h1 : w.ownsRow B e1 s1 v1 n1 x1) (h2 : w.ownsRow B' e2 s2 v2 n2 x2) (hne : e1 ≠ e2) : v1.ownBlock = none ∨ v1.ownBlock ≠ v2.ownBlock := by
  rcases h1.2 with ⟨rfl, _⟩ | ⟨g, cap, cur, rfl, _, hg, _⟩
  · exact .inl rfl
  · rcases h2.2 with ⟨rfl, _⟩ | ⟨g', cap', cur', rfl, _, hg', _⟩
    · exact .inr (by simp [Value.ownBlock])
    · refine .inr fun e => ?_
      simp [Value.ownBlock] at e
      subst e
      rw [hg] at hg'
      simp at hg'
      exact hne hg'.2

/-- The rows so far. -/
def RowsSo (W : World) (B p3 : Nat) (L : List ByteArray) (i : Nat) : Prop :=
  ∃ v us, Boxed W p3 247 v ∧ W.ownsRow B 25 1 v i us ∧ (∀ u ∈ us, ∃ a n c, u = Value.slice a n c) ∧
    ((∀ (j : Nat) (x : ByteArray), j < i → L[j]? = some x → okL j x = true) → ∀ (j : Nat) (u : Value) (x : ByteArray), us[j]? = some u → L[j]? = some x → W.ownsRow B 3 1 u (tailL x).length ((intsV (tailL x)).map (Value.int .i64)))
/-- What Parse's function keeps. -/
structure ParseI (w0 : World) (B p1 p2 p3 r : Nat) (L : List ByteArray) (i : Nat) (W : World) : Prop where
  max : MaxAt W
  below : Below B w0 W
  kind : Boxed W p1 9 (.string (kindW i))
  forms : Boxed W p2 245 (.map (some r))
  ents : W.heap[r]? = some (.map formsE 2)
  rows : RowsSo W B p3 L i
theorem boxed_on {W W' : World} {k t : Nat} {u : Value} (h : Boxed W k t u) (hb : Below W.heap.size W W') : Boxed W' k t u := (hb.block k h.lt).trans h
theorem RowsSo.on {W W' : World} {B p3 i : Nat} {L : List ByteArray} (h : RowsSo W B p3 L i) (hb : Below W.heap.size W W') : RowsSo W' B p3 L i := by
  obtain ⟨v, us, h1, h2, h3, h4⟩ := h
  exact ⟨v, us, boxed_on h1 hb, owns_on h2 hb, h3, fun ha j u x hu hx => owns_on (h4 ha j u x hu hx) hb⟩
theorem ParseI.on {w0 W W' : World} {B p1 p2 p3 r i : Nat} {L : List ByteArray} (h : ParseI w0 B p1 p2 p3 r L i W) (hb : Below W.heap.size W W') (hB : B ≤ W.heap.size) : ParseI w0 B p1 p2 p3 r L i W' :=
  ⟨h.max.on hb, h.below.trans (hb.mono hB), boxed_on h.kind hb, boxed_on h.forms hb, (hb.block r (Array.getElem?_eq_some_iff.1 h.ents).1).trans h.ents, h.rows.on hb⟩

/-- What kept apart from the blocks that were written still stands. -/
theorem lookup_kind (j : Nat) (r : Nat) (W : World) (h : W.heap[r]? = some (.map formsE 2)) : (Instr.lookup 245 (.map (some r)) (.string (kindW j)) false).run Tryz.prog W = .ok (formV j) W := by
  have hm : Tryz.prog.underlying 245 = some (.map 9 252) := Tryz.underlying245
  have hk : Tryz.prog.underlying 9 = some .string := Tryz.underlying9
  by_cases e : j = 0
  · subst e; exact run_lookup_str (i := 0) hm hk h rfl
  · have e1 : kindW j = rowW := if_neg e
    have e2 : formV j = formV 1 := by unfold formV; rw [if_neg e, if_neg (by decide)]
    rw [e1, e2]; exact run_lookup_str (i := 1) hm hk h rfl

theorem Tryz.infoInts : (Tryz.prog.info? 25).map (fun i => (i.zero, i.size, i.bytes)) = some (some (.slice none 0 0), 1, 24) := by kernel_rfl

/-- The error of a line. -/
noncomputable def lineErr (i : Nat) (x : ByteArray) : Int := if okL i x then 0 else 25
set_option maxRecDepth 100000 in
set_option maxHeartbeats 6400000 in
theorem parse1_any (w0 : World) (B p1 p2 p3 r : Nat) (L : List ByteArray) (i : Nat) (x : ByteArray) (W : World) (hx : L[i]? = some x) (hL : L.length ≤ 1000002) (hs : x.size ≤ 1000001) (hM0 : MaxAt w0) (hB0 : B = w0.heap.size) (hB : B ≤ W.heap.size)
    (h1 : B ≤ p1) (h3 : B ≤ p3) (h13 : p1 ≠ p3) (hI : ParseI w0 B p1 p2 p3 r L i W) :
    Calls Tryz.prog 188 #[.int .i64 i, .string x, .pointer (some ⟨p1, 0, none⟩), .pointer (some ⟨p2, 0, none⟩), .pointer (some ⟨p3, 0, none⟩)] W fun e W' =>
      e = .returned (.int .i64 (lineErr i x)) ∧ ParseI w0 B p1 p2 p3 r L (i + 1) W' ∧ KeepT p1 p2 p3 W W' := by
  obtain ⟨i0, hi, hz0, hz1, hz2⟩ := info_parts Tryz.infoInts
  have hil : i < L.length := (List.getElem?_eq_some_iff.1 hx).1
  have KR := Lib.hid (readLine_any i x W hs hI.max)
  obtain ⟨v, us, hv, hown, hsh, hok⟩ := hI.rows
  have c1 := hI.kind.cell
  have c2 := hI.forms.cell
  have c3 := hv.cell
  have hlk := lookup_kind i r W hI.ents
  have HI := Lib.hid hI
  have HV := Lib.hid hv
  have HOWN := Lib.hid hown
  have HSH := Lib.hid hsh
  have HOK := Lib.hid hok
  have HX := Lib.hid hx
  have HM0 := Lib.hid hM0
  have HB0 := Lib.hid hB0
  clear hI hv hown hsh hok hx hM0 hB0
  obtain ⟨KK, hKK⟩ : ∃ K, kindW i = K := ⟨_, rfl⟩
  obtain ⟨FF, hFF⟩ : ∃ F, formV i = F := ⟨_, rfl⟩
  rw [hKK] at c1 hlk KR
  rw [hFF] at hlk KR
  clear hKK hFF
  go_enter Tryz.func188, Tryz.ntmps188
  go_wp2_with fail
  refine KR.out.mono ?_
  rintro e w1 ⟨a, n, c, rfl, ho, hb1⟩
  have HB1 := Lib.hid hb1
  have HO := Lib.hid ho
  have hs1 := hb1.size
  obtain ⟨ok, hok⟩ : ∃ b, okL i x = b := ⟨_, rfl⟩
  have HOKX := Lib.hid hok
  rw [hok]
  have c3' : w1.cell? ⟨p3, 0, none⟩ = some v := by rw [hb1.cell (by exact HV.out.lt)]; exact c3
  have hown1 := owns_on HOWN.out hb1
  have bk1 := boxed_on HI.out.kind hb1
  have bf1 := boxed_on HI.out.forms hb1
  have be1 : w1.heap[r]? = some (.map formsE 2) := (hb1.block r (Array.getElem?_eq_some_iff.1 HI.out.ents).1).trans HI.out.ents
  have bv1 := boxed_on HV.out hb1
  have n3 := boxed_apart hown1 bv1 (by decide)
  have n1 := boxed_apart hown1 bk1 (by decide)
  have n2 := boxed_apart hown1 bf1 (by decide)
  have nr := own_apart hown1 be1 (fun cs e => by cases e)
  have hmx1 := Lib.hid (HI.out.max.on hb1)
  have hrb1 := Lib.hid (And.intro (And.intro bk1 bf1) (And.intro be1 bv1))
  clear hb1 ho hok c1 c2 c3 hlk bk1 bf1 be1 bv1
  go_wp2_with
    (at_builtin; refine wpList_append_own _ rfl (.tmp 19) (.tmp 21) 247 rfl B 25 i0 (.slice none 0 0) 1 24 Tryz.underlying247 hi hz0 hz1 hz2 rfl (by decide) _ i _ rfl (hown1.alloc _) ⟨w1.heap.size, 0, none⟩ 1 1 [.slice a n c] rfl rfl (cell_one_new _ _ _) (by intro u hu; simp at hu; subst hu; rfl) (by unfold maxLen; omega) (by omega) (by simp; omega) ?_; intro v' w3 hown3 hgrow3 _; obtain ⟨a', c', rfl⟩ := owns_shape hown3
     have bv3 : Boxed w3 p3 247 v := ((hrb1.out.2.2.alloc _).kept hgrow3 n3)
     have bk3 := ((hrb1.out.1.1.alloc (.cells #[.slice a n c] 25)).kept hgrow3 n1)
     have c3' := bv3.cell
     have f3' := bv3.frozen
     have HB3 := Lib.hid bv3
     have HK3 := Lib.hid bk3
     have HOWN3 := Lib.hid hown3
     have HG3 := Lib.hid hgrow3
     have c1' : (w3.setCell ⟨p3, 0, none⟩ (.slice a' (i + 1) c')).cell? ⟨p1, 0, none⟩ = some (.string (kindW i)) := (bk3.kept (grown_set w3 p3 0 _) (fun e => h13 (Option.some.inj e))).cell
     have f1' : (w3.setCell ⟨p3, 0, none⟩ (.slice a' (i + 1) c')).frozen? ⟨p1, 0, none⟩ = false := (bk3.kept (grown_set w3 p3 0 _) (fun e => h13 (Option.some.inj e))).frozen
     clear bv3 bk3 hown3 hgrow3)
  obtain ⟨W4, hW4⟩ : ∃ W4, (w3.setCell ⟨p3, 0, none⟩ (.slice a' (i + 1) c')).setCell ⟨p1, 0, none⟩ (.string rowW) = W4 := ⟨_, rfl⟩
  have hW4' : (w3.setCell ⟨p3, 0, none⟩ (.slice a' (i + 1) c')).setCell ⟨p1, 0, none⟩ (.string ⟨#[114, 111, 119]⟩) = W4 := hW4
  have HW4 := Lib.hid hW4
  clear hW4 c1' f1' c3' f3'
  rw [hW4']
  clear hW4'
  have hok1 : (if (!ok) = true then (25 : Int) else 0) = lineErr i x := by unfold lineErr; rw [HOKX.out]; cases ok <;> rfl
  refine (cwhen_any (!ok) 25 W4).mono ?_
  rintro e w9 ⟨rfl, rfl⟩
  rw [hok1]
  obtain ⟨ev, hev⟩ : ∃ ev, lineErr i x = ev := ⟨_, rfl⟩
  rw [hev]
  have HEV := Lib.hid hev
  clear hev hok1
  go_wp2
  go_ret
  have hW4 := HW4.out
  have hG := HG3.out
  have hsz1 : w1.heap.size < w3.heap.size := by have := hG.size; simp at this; omega
  have g3 := grown_set w3 p3 0 (.slice a' (i + 1) c')
  have g1 := grown_set (w3.setCell ⟨p3, 0, none⟩ (.slice a' (i + 1) c')) p1 0 (.string rowW)
  rw [hW4] at g1
  obtain ⟨⟨qk, qf⟩, qe, qv⟩ := hrb1.out
  have lt_v : ∀ k, v.ownBlock = some k → B ≤ k := fun k hk => (hown1.lt k hk).1
  have hB3 : Below B w1 w3 := ((Below.refl _ w1).alloc (by omega) _).grown hG (by simp; omega) (fun k hk => lt_v k hk)
  have hB4 : Below B w3 W4 := by
    rw [← hW4]; exact ((Below.refl _ w3).setCell (p := ⟨p3, 0, none⟩) h3 _).setCell (p := ⟨p1, 0, none⟩) h1 _
  have hBall : Below B W W4 := ((HB1.out.mono hB).trans hB3).trans hB4
  have hmono : Below B w0 W4 := HI.out.below.trans hBall
  -- a block that is neither written place
  have keep : ∀ (k : Nat) (o : Obj), w1.heap[k]? = some o → some k ≠ v.ownBlock → k ≠ p1 → k ≠ p3 → W4.heap[k]? = some o := fun k o hk ho hk1 hk3 => by
    have hl := (Array.getElem?_eq_some_iff.1 hk).1
    have e1 : (w1.alloc (.cells #[.slice a n c] 25)).heap[k]? = some o := (Below.heap_alloc _ _ _ hl).trans hk
    have e2 := (hG.block k (by simp; omega) ho).trans e1
    have l3 := (Array.getElem?_eq_some_iff.1 e2).1
    have e3 := (g3.block k l3 (fun e => hk3 (Option.some.inj e))).trans e2
    exact (g1.block k (by rw [(OnlyBlk.set w3 p3 0 _).2]; exact l3) (fun e => hk1 (Option.some.inj e))).trans e3
  have ne12 : p2 ≠ p1 := fun e => by
    subst e
    have := qf.symm.trans qk
    injection this with this
    injection this with _ e2
    exact absurd e2 (by decide)
  have ne32 : p2 ≠ p3 := fun e => by
    subst e
    have := qf.symm.trans qv
    injection this with this
    injection this with _ e2
    exact absurd e2 (by decide)
  have ner1 : r ≠ p1 := fun e => by
    subst e
    have := qe.symm.trans qk
    cases this
  have ner3 : r ≠ p3 := fun e => by
    subst e
    have := qe.symm.trans qv
    cases this
  have nr' : some r ≠ v.ownBlock := own_apart hown1 qe (fun cs e => by cases e)
  have n2' := boxed_apart hown1 qf (by decide)
  have kind4 : Boxed W4 p1 9 (.string (kindW (i + 1))) := by
    have e : kindW (i + 1) = rowW := if_neg (by omega)
    rw [e, ← hW4]
    exact (HK3.out.kept g3 (fun e => h13 (Option.some.inj e))).set _
  have rows4 : Boxed W4 p3 247 (.slice a' (i + 1) c') := (HB3.out.set _).kept g1 (fun e => h13 (Option.some.inj e).symm)
  have own4 : W4.ownsRow B 25 1 (.slice a' (i + 1) c') (i + 1) (us ++ [.slice a n c]) := by
    have hn3 := boxed_apart HOWN3.out HB3.out (by decide)
    have o3 := HOWN3.out.kept g3 (by
      cases hq : (Value.slice a' (i + 1) c').ownBlock with
      | none => exact .inl rfl
      | some k => exact .inr (fun e => by rw [hq, e] at hn3; exact hn3 rfl))
    have hn1 := boxed_apart o3 (HK3.out.kept g3 (fun e => h13 (Option.some.inj e))) (by decide)
    exact o3.kept g1 (by
      cases hq : (Value.slice a' (i + 1) c').ownBlock with
      | none => exact .inl rfl
      | some k => exact .inr (fun e => by rw [hq, e] at hn1; exact hn1 rfl))
  refine ⟨by rw [HEV.out]; rfl, ⟨?_, hmono, kind4, keep p2 _ qf n2' ne12 ne32, keep r _ qe nr' ner1 ner3, _, _, rows4, own4, ?_, ?_⟩, ?_⟩
  · have hB0 := HB0.out; subst hB0; exact HM0.out.late HI.out.max hBall
  · intro u hu
    rcases List.mem_append.1 hu with hu | hu
    · exact HSH.out u hu
    · exact ⟨a, n, c, by simpa using hu⟩
  · intro hall j u y hu hy
    have hlen : us.length = i := by have := HOWN.out.1; simpa using this
    have move : ∀ {u : Value} {m : Nat} {ys : List Value}, w1.ownsRow B 3 1 u m ys → W4.ownsRow B 3 1 u m ys := fun {u m ys} h => by
      have hne := own_other h hown1 (by decide)
      refine ⟨h.1, ?_⟩
      rcases h.2 with h' | ⟨g, cap, cur, e1, e2, e3, e4⟩
      · exact .inl h'
      · refine .inr ⟨g, cap, cur, e1, e2, keep g _ e3 ?_ ?_ ?_, e4⟩
        · rcases hne with hne | hne
          · rw [e1] at hne; cases hne
          · rw [e1] at hne; exact hne
        · intro e; subst e
          have := e3.symm.trans qk
          injection this with this
          injection this with _ e2
          exact absurd e2 (by decide)
        · intro e; subst e
          have := e3.symm.trans qv
          injection this with this
          injection this with _ e2
          exact absurd e2 (by decide)
    by_cases hj : j < i
    · rw [List.getElem?_append_left (by omega)] at hu
      exact move (owns_on (HOK.out (fun q z hq hz => hall q z (by omega) hz) j u y hu hy) HB1.out)
    · have hji : j = i := by
        have := (List.getElem?_eq_some_iff.1 hu).1
        simp at this; omega
      subst hji
      rw [List.getElem?_append_right (by omega), hlen, Nat.sub_self] at hu
      have eu : u = .slice a n c := by simpa using hu.symm
      have ey : y = x := by rw [HX.out] at hy; exact (Option.some.inj hy).symm
      subst eu; subst ey
      exact move (owns_base (HO.out (hall j y (by omega) hy)) hB)
  · intro k cs hk1 hk2 hk3 hk
    have e1 := (HB1.out.block k (Array.getElem?_eq_some_iff.1 hk).1).trans hk
    exact keep k _ e1 (own_apart hown1 e1 (fun cs' e => by injection e with _ e2; exact absurd e2 (by decide))) hk1 hk3
end Go.Proofs.YtfdkmmllemkogaaGreatDoor

/-
  Texts: slices.Concat of rows of integers.
-/
namespace Go.Proofs.YtfdkmmllemkogaaGreatDoor
open Go.RowKit
set_option linter.unusedVariables false
set_option linter.unusedSimpArgs false

set_option maxRecDepth 100000 in
set_option maxHeartbeats 3200000 in
/-- slices.Grow of nil: an empty row with room. -/
theorem grow_nil (n : Nat) (h1 : 1 ≤ n) (h2 : n ≤ 1000000) (w : World) :
    Calls Tryz.prog 243 #[.slice none 0 0, .int .i64 n] w fun e w' => ∃ c, e = .returned (.slice (some ⟨w.heap.size, 0, none⟩) 0 c) ∧ w'.ownsRow w.heap.size 3 1 (.slice (some ⟨w.heap.size, 0, none⟩) 0 c) 0 [] ∧ Below w.heap.size w w' := by
  obtain ⟨i0, hi, hz0, hz1, hz2⟩ := info_parts Tryz.infoInt
  have u22 : Tryz.prog.underlying 25 = some (.slice 3) := Tryz.underlying25
  have u3 : Tryz.prog.underlying 3 = some (.int .i64) := Tryz.underlying3
  have hold : (Builtin.firstCells i0.size 0 (.slice none 0 0)).run Tryz.prog w.drew = .ok ([] : List Value).toArray w.drew := run_firstCells_none w.drew i0.size 0 0 0
  have hrz : ∀ ty, (Builtin.append_ #[25, 3] ty #[.slice none 0 0, .int .i64 n]).run Tryz.prog w =
      .ok (.slice (some ⟨w.heap.size, 0, none⟩) n (grownCap w n 0 3)) (w.drew.alloc (.cells (([] : List Value).toArray ++ Builtin.zeroCells (Value.int .i64 0).cells n ++ Builtin.zeroCells (Value.int .i64 0).cells (grownCap w n 0 3 - n)) 3)) := fun ty => by
    have h := Lib.run_append_grow_zeros w 25 3 ty 3 i0 (.int .i64 0) .i64 .i64 u22 u3 hi hz0 none 0 0 [] hold n (by omega) (by rw [hz1]; decide) (by omega) (by omega) (by rw [hz2]; omega)
      (by rw [Nat.zero_add]; exact growslice_fits (by omega) (by rw [hz2]; omega))
    rw [Nat.zero_add] at h
    exact h
  have hGn : n ≤ grownCap w n 0 3 := grownCap_ge w _ _ _
  have hGm : grownCap w n 0 3 ≤ maxLen := grownCap_le_maxLen w n 0 3 (by unfold maxLen; omega)
  obtain ⟨G, hG⟩ : ∃ G, grownCap w n 0 3 = G := ⟨_, rfl⟩
  rw [hG] at hrz hGn hGm
  have hsz : (([] : List Value).toArray ++ Builtin.zeroCells (Value.int .i64 0).cells n ++ Builtin.zeroCells (Value.int .i64 0).cells (G - n)).size = G := by
    simp [Builtin.zeroCells, Value.cells]; omega
  obtain ⟨CS, hCS⟩ : ∃ CS, ([] : List Value).toArray ++ Builtin.zeroCells (Value.int .i64 0).cells n ++ Builtin.zeroCells (Value.int .i64 0).cells (G - n) = CS := ⟨_, rfl⟩
  rw [hCS] at hrz hsz
  have HSZ := Lib.hid hsz
  have HGM := Lib.hid hGm
  have hGm2 : G ≤ 9223372036854775807 := by unfold maxLen at hGm; omega
  have hown : (w.drew.alloc (.cells CS 3)).ownsRow w.heap.size 3 1 (.slice (some ⟨w.heap.size, 0, none⟩) 0 G) 0 [] :=
    ⟨rfl, .inr ⟨w.heap.size, G, CS, rfl, Nat.le_refl _, heap_alloc_new w.drew _, Nat.zero_le _, hGm, by omega, by simp⟩⟩
  have HO := Lib.hid hown
  clear hold hG hsz hGm hown hCS
  go_enter Tryz.func243, Tryz.ntmps243
  go_wp2_with (at_builtin; refine Lib.wpList_append_run _ rfl _ _ _ _ rfl _ _ rfl rfl _ _ (hrz _) ?_)
  go_ret
  exact ⟨G, rfl, HO.out, ((Below.refl _ w).drew).alloc (Nat.le_refl _) _⟩

/-- Rows in memory. -/
def RowsIn (w : World) (us : List Value) (rs : List (List Int)) : Prop :=
  us.length = rs.length ∧ ∀ (j : Nat) (u : Value) (r : List Int), us[j]? = some u → rs[j]? = some r → ∃ g c, u = .slice (some ⟨g, 0, none⟩) r.length c ∧ g < w.heap.size ∧ ∀ (k : Nat) (v : Int), r[k]? = some v → w.cell? ⟨g, k, none⟩ = some (.int .i64 v)
theorem flat_step {rs : List (List Int)} {k : Nat} {r : List Int} (h : rs[k]? = some r) : (rs.take (k + 1)).flatten = (rs.take k).flatten ++ r := by
  rw [List.take_add_one, h, List.flatten_append]; simp
theorem flat_le (rs : List (List Int)) (k : Nat) : ((rs.take k).flatten).length ≤ rs.flatten.length := by
  have h := congrArg (fun l => (List.flatten l).length) (List.take_append_drop k rs)
  simp only [List.flatten_append, List.length_append] at h
  omega

set_option maxRecDepth 100000 in
set_option maxHeartbeats 6400000 in
theorem concat_any (g o n c : Nat) (us : List Value) (rs : List (List Int)) (w : World) (hg : g < w.heap.size) (hn : us.length = n) (hn2 : n ≤ 1000000) (hcell : ∀ (j : Nat) (u : Value), us[j]? = some u → w.cell? ⟨g, o + j, none⟩ = some u)
    (hrow : RowsIn w us rs) (N : Nat) (hN : rs.flatten.length = N) (hN1 : 1 ≤ N) (hN2 : N ≤ 1000000) :
    Calls Tryz.prog 224 #[.slice (some ⟨g, o, none⟩) n c] w fun e w' => ∃ gg cc, e = .returned (.slice (some ⟨gg, 0, none⟩) N cc) ∧ w'.ownsRow w.heap.size 3 1 (.slice (some ⟨gg, 0, none⟩) N cc) N ((rs.flatten).map (Value.int .i64)) ∧ Below w.heap.size w w' := by
  obtain ⟨i0, hi, hz0, hz1, hz2⟩ := info_parts Tryz.infoInt
  have KG := Lib.hid (fun W => grow_nil N hN1 hN2 W)
  have HC := Lib.hid hcell
  have HR := Lib.hid hrow
  have HN := Lib.hid hn
  have HNN := Lib.hid hN
  have hrl : rs.length = n := by rw [← hrow.1]; exact hn
  have HRL := Lib.hid hrl
  clear hcell hrow hn hN hrl
  go_enter Tryz.func224, Tryz.ntmps224
  go_wp2
  go_loop [3, 11] (fun z i => ∃ k : Nat, k ≤ n ∧ i = .int .i64 k ∧ ∃ q : Nat, z = .int .i64 q ∧ Hid (q = ((rs.take k).flatten).length)) (fun _ i => n - (intOf i).toNat)
  case atStart => exact ⟨0, Nat.zero_le _, rfl, 0, rfl, Lib.hid rfl⟩
  case round =>
    obtain ⟨k, hk, rfl, q, rfl, hq⟩ := hrel
    have hqN : q ≤ N := by have h1 := flat_le rs k; have h2 := hq.out; have h3 := HNN.out; omega
    by_cases hlt : k < n
    · obtain ⟨u, hu⟩ : ∃ u, us[k]? = some u := ⟨us[k]'(by rw [HN.out]; exact hlt), List.getElem?_eq_getElem _⟩
      obtain ⟨r, hr⟩ : ∃ r, rs[k]? = some r := ⟨rs[k]'(by rw [HRL.out]; exact hlt), List.getElem?_eq_getElem _⟩
      obtain ⟨gg, cc, rfl, -, -⟩ := HR.out.2 k u r hu hr
      have hc := HC.out k _ hu
      have hq2 := Lib.hid (show q + r.length = ((rs.take (k + 1)).flatten).length by rw [flat_step hr, List.length_append, ← hq.out])
      have hqN2 : q + r.length ≤ N := by have h1 := flat_le rs (k + 1); have h2 := hq2.out; have h3 := HNN.out; omega
      obtain ⟨m, hm⟩ : ∃ m, r.length = m := ⟨_, rfl⟩
      rw [hm] at hc hq2 hqN2
      clear hu hr hm
      go_wp2
      go_round
      case rel => exact ⟨k + 1, by omega, by go_num, q + m, by go_num, hq2⟩
      case measure => first | (simp [intOf]; done) | (simp [intOf]; omega)
    · obtain rfl : n = k := by omega
      have hqe : q = N := by
        have h2 := hq.out; have h3 := HNN.out
        rw [List.take_of_length_le (by have := HRL.out; omega)] at h2
        omega
      subst hqe
      go_wp2_with fail
      refine (KG.out _).mono ?_
      rintro e w1 ⟨c1, rfl, hown1, hb1⟩
      have HB1 := Lib.hid hb1
      have HO1 := Lib.hid hown1
      clear hown1 hb1
      go_wp2
      go_loopw [6, 27] (fun out i wr => ∃ k : Nat, k ≤ n ∧ i = .int .i64 k ∧ wr.ownsRow w.heap.size 3 1 out ((rs.take k).flatten).length (((rs.take k).flatten).map (Value.int .i64)) ∧ (∃ gg cc, out = .slice (some ⟨gg, 0, none⟩) ((rs.take k).flatten).length cc) ∧ Below w.heap.size w wr)
        (fun _ i _ => n - (intOf i).toNat)
      case atStart => exact ⟨0, Nat.zero_le _, rfl, HO1.out, ⟨_, _, rfl⟩, HB1.out⟩
      case round =>
        obtain ⟨k, hk, rfl, hown, ⟨gg, cc, rfl⟩, hnx⟩ := hrel
        have hsz := hnx.size
        have hqN : ((rs.take k).flatten).length ≤ q := by have h1 := flat_le rs k; have h3 := HNN.out; omega
        by_cases hlt2 : k < n
        · obtain ⟨u, hu⟩ : ∃ u, us[k]? = some u := ⟨us[k]'(by rw [HN.out]; exact hlt2), List.getElem?_eq_getElem _⟩
          obtain ⟨r, hr⟩ : ∃ r, rs[k]? = some r := ⟨rs[k]'(by rw [HRL.out]; exact hlt2), List.getElem?_eq_getElem _⟩
          obtain ⟨ga, ca, rfl, hga, hcs⟩ := HR.out.2 k u r hu hr
          have hc : wr.cell? ⟨g, o + k, none⟩ = some (.slice (some ⟨ga, 0, none⟩) r.length ca) := (hnx.cell (by exact hg)).trans (HC.out k _ hu)
          have hfs := flat_step hr
          have hqN2 : ((rs.take k).flatten).length + r.length ≤ q := by
            have h1 := flat_le rs (k + 1); have h3 := HNN.out
            rw [hfs, List.length_append] at h1; omega
          have HFS := Lib.hid hfs
          have hnews := Lib.hid (show ∀ (j : Nat) (v : Value), (r.map (Value.int .i64))[j]? = some v → wr.cell? ((⟨ga, 0, none⟩ : Addr).add j) = some v from fun j v h => by
            rw [List.getElem?_map] at h
            cases hv : r[j]? with
            | none => rw [hv] at h; cases h
            | some x =>
              rw [hv] at h
              have e : Value.int .i64 x = v := by simpa using h
              subst e
              have hadd : (⟨ga, 0, none⟩ : Addr).add j = ⟨ga, j, none⟩ := by unfold Addr.add; split <;> simp_all
              rw [hadd]
              exact (hnx.cell (by exact hga)).trans (hcs j x hv))
          obtain ⟨F, hF⟩ : ∃ F, (rs.take k).flatten = F := ⟨_, rfl⟩
          rw [hF] at hown hqN hqN2 HFS ⊢
          have HF := Lib.hid hF
          clear hu hr hfs hcs hF
          go_wp2_with (at_builtin; refine wpList_append_own _ rfl (.tmp 31) (.tmp 32) 25 rfl w.heap.size 3 i0 (.int .i64 0) 1 8 Tryz.underlying25 hi hz0 hz1 hz2 rfl (by decide) _ F.length _ rfl hown ⟨ga, 0, none⟩ r.length ca (r.map (Value.int .i64)) rfl (by simp) hnews.out (by intro u hu; obtain ⟨x, _, rfl⟩ := List.mem_map.1 hu; rfl) (by unfold maxLen; omega) (by omega) (by omega) ?_; intro v' w3 hown3 hgrow3 hiff; have HIFF := Lib.hid hiff; clear hiff)
          have hsh : ∃ g' c', v' = .slice (some ⟨g', 0, none⟩) (F.length + r.length) c' := by
            rcases hown3.2 with ⟨h, _⟩ | ⟨g', c', cur, h, _⟩
            · exact absurd (HIFF.out.1 h).1 (by intro h; cases h)
            · exact ⟨g', c', h⟩
          have HSH := Lib.hid hsh
          clear hsh
          go_roundw
          case rel => exact ⟨k + 1, by omega, by go_num, by rw [HFS.out, List.length_append, List.map_append]; exact hown3, by rw [HFS.out, List.length_append]; exact HSH.out, hnx.grown hgrow3 (by omega) (fun p hp => (hown.lt p hp).1)⟩
          case measure => first | (simp [intOf]; done) | (simp [intOf]; omega)
        · obtain rfl : n = k := by omega
          have HT := Lib.hid (List.take_of_length_le (l := rs) (i := n) (by have := HRL.out; omega))
          have HX : Hid (∃ g2 c2, Value.slice (some ⟨gg, 0, none⟩) ((rs.take n).flatten).length cc = .slice (some ⟨g2, 0, none⟩) q c2 ∧ wr.ownsRow w.heap.size 3 1 (.slice (some ⟨g2, 0, none⟩) q c2) q ((rs.flatten).map (Value.int .i64))) := Lib.hid (by
            rw [HT.out] at hown ⊢
            rw [HNN.out] at hown ⊢
            exact ⟨gg, cc, rfl, hown⟩)
          have HB := Lib.hid hnx
          clear hown hnx
          go_wp2
          go_ret
          obtain ⟨g2, c2, e1, e2⟩ := HX.out
          exact ⟨g2, c2, congrArg Ending.returned e1, e2, HB.out⟩
end Go.Proofs.YtfdkmmllemkogaaGreatDoor
