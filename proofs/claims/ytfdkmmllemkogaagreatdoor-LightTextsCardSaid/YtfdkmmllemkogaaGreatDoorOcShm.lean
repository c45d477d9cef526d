/-
  The shelf's contracts of strings.CutPrefix, CutSuffix, Cut, genSplit and strconv.Atoi over this program, as the kit's command lays them in plain words.
-/
import Derived.Shelf.Small.Wraps
import Derived.Shelf.Strconv.Atoi
import Derived.Shelf.Strings.Cut
import Derived.Shelf.Strings.Split
import Derived.Test.YtfdkmmllemkogaaGreatDoorProg
import Derived.Lib.SmallJoins
import Derived.Test.YtfdkmmllemkogaaGreatDoorOcSl
import Derived.Lib.ItoaMem
import Derived.Lib.ItoaLen
import Derived.Laws.Runes
import Derived.Laws.Concat
namespace Go.Proofs
open Go.Shelf
def Tryz.lays103_ren : Go.Shelf.Ren := ⟨fun | 103 => 250 | 210 => 262 | 206 => 273 | n => n, fun | 9 => 9 | 4 => 4 | 24 => 297 | 3 => 3 | n => n, fun | n => n⟩
theorem Tryz.lays103 : Go.Proofs.Lays.n103 Tryz.prog Tryz.lays103_ren := {
  mixed := by kernel_rfl
  f103 := Tryz.func250.trans (congrArg some (by kernel_rfl))
  f206 := Tryz.func273.trans (congrArg some (by kernel_rfl))
  f210 := Tryz.func262.trans (congrArg some (by kernel_rfl))
  t3 := Tryz.underlying3
  a3 := Tryz.isAgg3
  z3 := Tryz.sizeOf3
  v3 := Tryz.zeroValue3
  t4 := Tryz.underlying4
  a4 := Tryz.isAgg4
  z4 := Tryz.sizeOf4
  v4 := Tryz.zeroValue4
  t9 := Tryz.underlying9
  a9 := Tryz.isAgg9
  z9 := Tryz.sizeOf9
  v9 := Tryz.zeroValue9
  t24 := Tryz.underlying297
  a24 := Tryz.isAgg297
  z24 := Tryz.sizeOf297
  v24 := Tryz.zeroValue297 }
open Go.RowKit in
theorem Tryz.strings_CutPrefix (s p : ByteArray) (w : World) :
    Calls Tryz.prog 250 #[.string s, .string p] w fun e w' => e = .returned (.tuple #[.string ⟨(Lib.trimPrefix s.data.toList p.data.toList).toArray⟩, .bool (Lib.hasPrefix s.data.toList p.data.toList)]) ∧ w' = w := Any.strings_CutPrefix Tryz.lays103 s p w
def Tryz.lays104_ren : Go.Shelf.Ren := ⟨fun | 104 => 238 | 211 => 249 | 207 => 261 | n => n, fun | 9 => 9 | 4 => 4 | 24 => 297 | 3 => 3 | n => n, fun | n => n⟩
theorem Tryz.lays104 : Go.Proofs.Lays.n104 Tryz.prog Tryz.lays104_ren := {
  mixed := by kernel_rfl
  f104 := Tryz.func238.trans (congrArg some (by kernel_rfl))
  f207 := Tryz.func261.trans (congrArg some (by kernel_rfl))
  f211 := Tryz.func249.trans (congrArg some (by kernel_rfl))
  t3 := Tryz.underlying3
  a3 := Tryz.isAgg3
  z3 := Tryz.sizeOf3
  v3 := Tryz.zeroValue3
  t4 := Tryz.underlying4
  a4 := Tryz.isAgg4
  z4 := Tryz.sizeOf4
  v4 := Tryz.zeroValue4
  t9 := Tryz.underlying9
  a9 := Tryz.isAgg9
  z9 := Tryz.sizeOf9
  v9 := Tryz.zeroValue9
  t24 := Tryz.underlying297
  a24 := Tryz.isAgg297
  z24 := Tryz.sizeOf297
  v24 := Tryz.zeroValue297 }
open Go.RowKit in
theorem Tryz.strings_CutSuffix (s p : ByteArray) (w : World) (hs : s.size ≤ 9223372036854775807) :
    Calls Tryz.prog 238 #[.string s, .string p] w fun e w' => e = .returned (.tuple #[.string ⟨(Lib.trimSuffix s.data.toList p.data.toList).toArray⟩, .bool (Lib.hasSuffix s.data.toList p.data.toList)]) ∧ w' = w := Any.strings_CutSuffix Tryz.lays104 s p w hs
def Tryz.lays172_ren : Go.Shelf.Ren := ⟨fun | 172 => 263 | 244 => 274 | 245 => 275 | 247 => 283 | 279 => 284 | 280 => 285 | 281 => 286 | 282 => 287 | 287 => 290 | 316 => 291 | 171 => 216 | 205 => 292 | 321 => 293 | 322 => 294 | 243 => 236 | 246 => 247 | 283 => 254 | 284 => 255 | 285 => 256 | 286 => 257 | 129 => 266 | 317 => 265 | 318 => 267 | 319 => 268 | 320 => 269 | 337 => 280 | 338 => 281 | n => n, fun | 9 => 9 | 3 => 3 | 75 => 237 | 76 => 238 | 4 => 4 | 5 => 5 | 167 => 326 | 37 => 109 | 0 => 0 | 85 => 327 | 2 => 2 | 168 => 329 | 53 => 290 | 175 => 340 | 46 => 274 | 210 => 344 | 127 => 278 | 145 => 349 | 143 => 347 | 21 => 21 | 171 => 108 | 173 => 311 | 212 => 317 | 51 => 229 | 20 => 20 | 213 => 318 | 232 => 334 | 233 => 335 | 80 => 244 | n => n, fun | 15 => 7 | 16 => 8 | 17 => 2 | 18 => 3 | 19 => 4 | n => n⟩
theorem Tryz.lays172 : Go.Proofs.Lays.n172 Tryz.prog Tryz.lays172_ren := {
  mixed := by kernel_rfl
  f129 := Tryz.func266.trans (congrArg some (by kernel_rfl))
  f171 := Tryz.func216.trans (congrArg some (by kernel_rfl))
  f172 := Tryz.func263.trans (congrArg some (by kernel_rfl))
  f205 := Tryz.func292.trans (congrArg some (by kernel_rfl))
  f243 := Tryz.func236.trans (congrArg some (by kernel_rfl))
  f244 := Tryz.func274.trans (congrArg some (by kernel_rfl))
  f245 := Tryz.func275.trans (congrArg some (by kernel_rfl))
  f246 := Tryz.func247.trans (congrArg some (by kernel_rfl))
  f247 := Tryz.func283.trans (congrArg some (by kernel_rfl))
  f279 := Tryz.func284.trans (congrArg some (by kernel_rfl))
  f280 := Tryz.func285.trans (congrArg some (by kernel_rfl))
  f281 := Tryz.func286.trans (congrArg some (by kernel_rfl))
  f282 := Tryz.func287.trans (congrArg some (by kernel_rfl))
  f283 := Tryz.func254.trans (congrArg some (by kernel_rfl))
  f284 := Tryz.func255.trans (congrArg some (by kernel_rfl))
  f285 := Tryz.func256.trans (congrArg some (by kernel_rfl))
  f286 := Tryz.func257.trans (congrArg some (by kernel_rfl))
  f287 := Tryz.func290.trans (congrArg some (by kernel_rfl))
  f316 := Tryz.func291.trans (congrArg some (by kernel_rfl))
  f317 := Tryz.func265.trans (congrArg some (by kernel_rfl))
  f318 := Tryz.func267.trans (congrArg some (by kernel_rfl))
  f319 := Tryz.func268.trans (congrArg some (by kernel_rfl))
  f320 := Tryz.func269.trans (congrArg some (by kernel_rfl))
  f321 := Tryz.func293.trans (congrArg some (by kernel_rfl))
  f322 := Tryz.func294.trans (congrArg some (by kernel_rfl))
  f337 := Tryz.func280.trans (congrArg some (by kernel_rfl))
  f338 := Tryz.func281.trans (congrArg some (by kernel_rfl))
  t0 := Tryz.underlying0
  a0 := Tryz.isAgg0
  z0 := Tryz.sizeOf0
  v0 := Tryz.zeroValue0
  t2 := Tryz.underlying2
  a2 := Tryz.isAgg2
  z2 := Tryz.sizeOf2
  v2 := Tryz.zeroValue2
  t3 := Tryz.underlying3
  a3 := Tryz.isAgg3
  z3 := Tryz.sizeOf3
  v3 := Tryz.zeroValue3
  t4 := Tryz.underlying4
  a4 := Tryz.isAgg4
  z4 := Tryz.sizeOf4
  v4 := Tryz.zeroValue4
  t5 := Tryz.underlying5
  a5 := Tryz.isAgg5
  z5 := Tryz.sizeOf5
  v5 := Tryz.zeroValue5
  t9 := Tryz.underlying9
  a9 := Tryz.isAgg9
  z9 := Tryz.sizeOf9
  v9 := Tryz.zeroValue9
  t20 := Tryz.underlying20
  a20 := Tryz.isAgg20
  z20 := Tryz.sizeOf20
  v20 := Tryz.zeroValue20
  t21 := Tryz.underlying21
  a21 := Tryz.isAgg21
  z21 := Tryz.sizeOf21
  v21 := Tryz.zeroValue21
  t37 := Tryz.underlying109
  a37 := Tryz.isAgg109
  z37 := Tryz.sizeOf109
  v37 := Tryz.zeroValue109
  t46 := Tryz.underlying274
  a46 := Tryz.isAgg274
  z46 := Tryz.sizeOf274
  v46 := Tryz.zeroValue274
  t51 := Tryz.underlying229
  a51 := Tryz.isAgg229
  z51 := Tryz.sizeOf229
  v51 := Tryz.zeroValue229
  t53 := Tryz.underlying290
  a53 := Tryz.isAgg290
  z53 := Tryz.sizeOf290
  v53 := Tryz.zeroValue290
  t75 := Tryz.underlying237
  a75 := Tryz.isAgg237
  z75 := Tryz.sizeOf237
  v75 := Tryz.zeroValue237
  t76 := Tryz.underlying238
  a76 := Tryz.isAgg238
  z76 := Tryz.sizeOf238
  v76 := Tryz.zeroValue238
  t85 := Tryz.underlying327
  a85 := Tryz.isAgg327
  z85 := Tryz.sizeOf327
  v85 := Tryz.zeroValue327
  t127 := Tryz.underlying278
  a127 := Tryz.isAgg278
  z127 := Tryz.sizeOf278
  v127 := Tryz.zeroValue278
  t143 := Tryz.underlying347
  a143 := Tryz.isAgg347
  z143 := Tryz.sizeOf347
  v143 := Tryz.zeroValue347
  t145 := Tryz.underlying349
  a145 := Tryz.isAgg349
  z145 := Tryz.sizeOf349
  v145 := Tryz.zeroValue349
  t167 := Tryz.underlying326
  a167 := Tryz.isAgg326
  z167 := Tryz.sizeOf326
  v167 := Tryz.zeroValue326
  t168 := Tryz.underlying329
  a168 := Tryz.isAgg329
  z168 := Tryz.sizeOf329
  v168 := Tryz.zeroValue329
  t171 := Tryz.underlying108
  a171 := Tryz.isAgg108
  z171 := Tryz.sizeOf108
  v171 := Tryz.zeroValue108
  t173 := Tryz.underlying311
  a173 := Tryz.isAgg311
  z173 := Tryz.sizeOf311
  v173 := Tryz.zeroValue311
  t175 := Tryz.underlying340
  a175 := Tryz.isAgg340
  z175 := Tryz.sizeOf340
  v175 := Tryz.zeroValue340
  t210 := Tryz.underlying344
  a210 := Tryz.isAgg344
  z210 := Tryz.sizeOf344
  v210 := Tryz.zeroValue344
  t212 := Tryz.underlying317
  a212 := Tryz.isAgg317
  z212 := Tryz.sizeOf317
  v212 := Tryz.zeroValue317
  t213 := Tryz.underlying318
  a213 := Tryz.isAgg318
  z213 := Tryz.sizeOf318
  t232 := Tryz.underlying334
  a232 := Tryz.isAgg334
  z232 := Tryz.sizeOf334
  v232 := Tryz.zeroValue334
  t233 := Tryz.underlying335
  a233 := Tryz.isAgg335
  z233 := Tryz.sizeOf335
  v233 := Tryz.zeroValue335
  g15 := by kernel_rfl
  g16 := by kernel_rfl
  g17 := by kernel_rfl
  g18 := by kernel_rfl
  g19 := by kernel_rfl }
open Go.RowKit in
theorem Tryz.strconv_Atoi (s : ByteArray) (n : Int) (hl : s.size ≤ 18) (h : Lib.atoi s.data.toList = some n) (w : World) :
    Calls Tryz.prog 263 #[.string s] w fun e w' => e = .returned (.tuple #[.int .i64 n, .nilIface]) ∧ ∃ t, w' = Lib.bytesWorld w 5 t := Any.strconv_Atoi Tryz.lays172 s n hl h w
def Tryz.lays145_ren : Go.Shelf.Ren := ⟨fun | 145 => 242 | 220 => 252 | 219 => 264 | 217 => 276 | 225 => 277 | 224 => 278 | 267 => 279 | 266 => 288 | 314 => 289 | n => n, fun | 9 => 9 | 4 => 4 | 59 => 302 | 3 => 3 | 5 => 5 | 46 => 274 | 146 => 332 | 51 => 229 | n => n, fun | 1 => 1 | n => n⟩
theorem Tryz.lays145 : Go.Proofs.Lays.n145 Tryz.prog Tryz.lays145_ren := {
  mixed := by kernel_rfl
  f145 := Tryz.func242.trans (congrArg some (by kernel_rfl))
  f217 := Tryz.func276.trans (congrArg some (by kernel_rfl))
  f219 := Tryz.func264.trans (congrArg some (by kernel_rfl))
  f220 := Tryz.func252.trans (congrArg some (by kernel_rfl))
  f224 := Tryz.func278.trans (congrArg some (by kernel_rfl))
  f225 := Tryz.func277.trans (congrArg some (by kernel_rfl))
  f266 := Tryz.func288.trans (congrArg some (by kernel_rfl))
  f267 := Tryz.func279.trans (congrArg some (by kernel_rfl))
  f314 := Tryz.func289.trans (congrArg some (by kernel_rfl))
  t3 := Tryz.underlying3
  a3 := Tryz.isAgg3
  z3 := Tryz.sizeOf3
  v3 := Tryz.zeroValue3
  t4 := Tryz.underlying4
  a4 := Tryz.isAgg4
  z4 := Tryz.sizeOf4
  v4 := Tryz.zeroValue4
  t5 := Tryz.underlying5
  a5 := Tryz.isAgg5
  z5 := Tryz.sizeOf5
  v5 := Tryz.zeroValue5
  t9 := Tryz.underlying9
  a9 := Tryz.isAgg9
  z9 := Tryz.sizeOf9
  v9 := Tryz.zeroValue9
  t46 := Tryz.underlying274
  a46 := Tryz.isAgg274
  z46 := Tryz.sizeOf274
  v46 := Tryz.zeroValue274
  t51 := Tryz.underlying229
  a51 := Tryz.isAgg229
  z51 := Tryz.sizeOf229
  v51 := Tryz.zeroValue229
  t59 := Tryz.underlying302
  a59 := Tryz.isAgg302
  z59 := Tryz.sizeOf302
  v59 := Tryz.zeroValue302
  t146 := Tryz.underlying332
  a146 := Tryz.isAgg332
  z146 := Tryz.sizeOf332
  v146 := Tryz.zeroValue332
  g1 := by kernel_rfl }
open Go.RowKit Go.Lib in
theorem Tryz.strings_Cut (s sep : ByteArray) (m : Int) (w : World) (hs : s.size < 4294967281) (hm : w.cell? ⟨1, 0, none⟩ = some (.int .i64 m)) :
    Calls Tryz.prog 242 #[.string s, .string sep] w fun e w' => e = .returned (.tuple #[.string ⟨(Lib.cut s.data.toList sep.data.toList).1.toArray⟩, .string ⟨(Lib.cut s.data.toList sep.data.toList).2.1.toArray⟩, .bool (Lib.cut s.data.toList sep.data.toList).2.2]) ∧ ∃ n, w' = w.drewN n := Any.strings_Cut Tryz.lays145 s sep m w hs hm
def Tryz.lays221_ren : Go.Shelf.Ren := ⟨fun | 221 => 248 | 268 => 258 | 138 => 259 | 143 => 260 | 195 => 270 | 197 => 271 | 218 => 272 | 219 => 264 | 260 => 282 | 217 => 276 | 225 => 277 | 224 => 278 | 267 => 279 | 266 => 288 | 314 => 289 | n => n, fun | 9 => 9 | 3 => 3 | 31 => 166 | 4 => 4 | 0 => 0 | 105 => 321 | 21 => 21 | 5 => 5 | 46 => 274 | 119 => 336 | 139 => 339 | 138 => 338 | 146 => 332 | 51 => 229 | n => n, fun | 1 => 1 | 3 => 5 | 4 => 6 | n => n⟩
theorem Tryz.lays221 : Go.Proofs.Lays.n221 Tryz.prog Tryz.lays221_ren := {
  mixed := by kernel_rfl
  f138 := Tryz.func259.trans (congrArg some (by kernel_rfl))
  f143 := Tryz.func260.trans (congrArg some (by kernel_rfl))
  f195 := Tryz.func270.trans (congrArg some (by kernel_rfl))
  f197 := Tryz.func271.trans (congrArg some (by kernel_rfl))
  f217 := Tryz.func276.trans (congrArg some (by kernel_rfl))
  f218 := Tryz.func272.trans (congrArg some (by kernel_rfl))
  f219 := Tryz.func264.trans (congrArg some (by kernel_rfl))
  f221 := Tryz.func248.trans (congrArg some (by kernel_rfl))
  f224 := Tryz.func278.trans (congrArg some (by kernel_rfl))
  f225 := Tryz.func277.trans (congrArg some (by kernel_rfl))
  f260 := Tryz.func282.trans (congrArg some (by kernel_rfl))
  f266 := Tryz.func288.trans (congrArg some (by kernel_rfl))
  f267 := Tryz.func279.trans (congrArg some (by kernel_rfl))
  f268 := Tryz.func258.trans (congrArg some (by kernel_rfl))
  f314 := Tryz.func289.trans (congrArg some (by kernel_rfl))
  t0 := Tryz.underlying0
  a0 := Tryz.isAgg0
  z0 := Tryz.sizeOf0
  v0 := Tryz.zeroValue0
  t3 := Tryz.underlying3
  a3 := Tryz.isAgg3
  z3 := Tryz.sizeOf3
  v3 := Tryz.zeroValue3
  t4 := Tryz.underlying4
  a4 := Tryz.isAgg4
  z4 := Tryz.sizeOf4
  v4 := Tryz.zeroValue4
  t5 := Tryz.underlying5
  a5 := Tryz.isAgg5
  z5 := Tryz.sizeOf5
  v5 := Tryz.zeroValue5
  t9 := Tryz.underlying9
  a9 := Tryz.isAgg9
  z9 := Tryz.sizeOf9
  v9 := Tryz.zeroValue9
  t21 := Tryz.underlying21
  a21 := Tryz.isAgg21
  z21 := Tryz.sizeOf21
  v21 := Tryz.zeroValue21
  t31 := Tryz.underlying166
  a31 := Tryz.isAgg166
  z31 := Tryz.sizeOf166
  v31 := Tryz.zeroValue166
  t46 := Tryz.underlying274
  a46 := Tryz.isAgg274
  z46 := Tryz.sizeOf274
  v46 := Tryz.zeroValue274
  t51 := Tryz.underlying229
  a51 := Tryz.isAgg229
  z51 := Tryz.sizeOf229
  v51 := Tryz.zeroValue229
  t105 := Tryz.underlying321
  a105 := Tryz.isAgg321
  z105 := Tryz.sizeOf321
  v105 := Tryz.zeroValue321
  t119 := Tryz.underlying336
  a119 := Tryz.isAgg336
  z119 := Tryz.sizeOf336
  t138 := Tryz.underlying338
  a138 := Tryz.isAgg338
  z138 := Tryz.sizeOf338
  v138 := Tryz.zeroValue338
  t139 := Tryz.underlying339
  a139 := Tryz.isAgg339
  z139 := Tryz.sizeOf339
  v139 := Tryz.zeroValue339
  t146 := Tryz.underlying332
  a146 := Tryz.isAgg332
  z146 := Tryz.sizeOf332
  v146 := Tryz.zeroValue332
  g1 := by kernel_rfl
  g3 := by kernel_rfl
  g4 := by kernel_rfl }
open Go.RowKit Go.Lib in
theorem Tryz.strings_genSplit (s sep : ByteArray) (sv : Nat) (n : Int) (N : Nat) (m : Int) (w : World) (hs : s.size < 4294967281) (hm : w.cell? ⟨1, 0, none⟩ = some (.int .i64 m)) (h1 : 1 ≤ sep.size) (hsv : sv ≤ sep.size) (hn0 : n ≠ 0) (hn63 : n ≤ 9223372036854775807) (hN : (N : Int) = min (if n < 0 then (Lib.countB s sep : Int) + 1 else n) ((s.size : Int) + 1)) :
    Calls Tryz.prog 248 #[.string s, .string sep, .int .i64 sv, .int .i64 n] w fun e w' =>
      e = .returned (.slice (some ⟨w.heap.size, 0, none⟩) (Lib.splitB sep sv (N - 1) s).length N) ∧ w' = w.alloc (.cells (Lib.cellsOf (Lib.splitB sep sv (N - 1) s) N) 9) := Any.strings_genSplit Tryz.lays221 (by kernel_rfl) s sep sv n N m w hs hm h1 hsv hn0 hn63 hN
end Go.Proofs

/-
  Texts: what strconv.Atoi, strings.CutPrefix, CutSuffix, Cut and SplitAfter answer, off the shelf's contracts.
-/
namespace Go.Proofs.YtfdkmmllemkogaaGreatDoor
open Go.RowKit
set_option linter.unusedVariables false
set_option linter.unusedSimpArgs false

theorem digVal_of {b : UInt8} (h : dgt (b.toNat : Int)) : Lib.digitVal b = some (b.toNat - 48) := by
  unfold Lib.digitVal; unfold dgt at h
  rw [if_pos ⟨by omega, by omega⟩]
theorem decFrom_dig (s : ByteArray) (h : digTo s s.size) : ∀ k, k ≤ s.size → Lib.decFrom 0 ((listB s).take k) = some (digV s k).toNat
  | 0, _ => rfl
  | k + 1, hk => by
    obtain ⟨b, hb, hbi⟩ := byteI_list (s := s) (k := k) (by omega)
    have hd := h k (by omega)
    rw [hbi] at hd
    have ih := decFrom_dig s h k (by omega)
    rw [Lib.decFrom_take (listB s) k 0 _ b _ ih hb (digVal_of hd)]
    have h0 := digV_nonneg (s := s) k (fun i hi => h i (by omega))
    unfold dgt at hd
    have e : digV s (k + 1) = 10 * digV s k + (byteI s k - 48) := rfl
    rw [e, hbi]
    congr 1
    omega
theorem atoi_nat {s : ByteArray} (h : natP s) : Lib.atoi s.data.toList = some (digV s s.size) := by
  obtain ⟨h1, h2, h3, h4⟩ := h
  have hd := decFrom_dig s h4 s.size (Nat.le_refl _)
  rw [List.take_of_length_le (by rw [listB_len]; exact Nat.le_refl _)] at hd
  have hn := digV_nonneg (s := s) s.size h4
  obtain ⟨b, hb, hbi⟩ := byteI_list (s := s) (k := 0) (by omega)
  have hb0 := h4 0 (by omega)
  rw [hbi] at hb0
  unfold dgt at hb0
  change Lib.atoi (listB s) = _
  cases hl : listB s with
  | nil => rw [hl] at hb; cases hb
  | cons c r =>
    rw [hl] at hb hd
    have : c = b := by simpa using hb
    subst this
    have e1 : (c == 45) = false := by
      rw [beq_eq_false_iff_ne]; rintro rfl; simp at hb0
    have e2 : (c == 43) = false := by
      rw [beq_eq_false_iff_ne]; rintro rfl; simp at hb0
    unfold Lib.atoi
    simp only [e1, e2, Bool.false_eq_true, if_false]
    unfold Lib.decNat
    simp only [List.isEmpty_cons, Bool.false_eq_true, if_false, hd, Option.map_some]
    congr 1; omega
theorem atoiC : AtoiC := fun s w h =>
  (Tryz.strconv_Atoi s _ (by have := h.2.1; omega) (atoi_nat h) w).mono fun e w' ⟨he, t, hw⟩ => ⟨he, by subst hw; exact Go.Joins.below_bytesWorld _ _ _ _ (Nat.le_refl _)⟩

open Classical in
theorem prefix_minus (s : ByteArray) : Lib.hasPrefix (listB s) [45] = decide (minusP s) := by
  rw [Bool.eq_iff_iff, decide_eq_true_iff]
  unfold minusP Lib.hasPrefix
  have hl := listB_len s
  cases hs : listB s with
  | nil => rw [hs] at hl; simp at hl ⊢; omega
  | cons b r =>
    rw [hs] at hl
    simp at hl
    obtain ⟨c, hc, hci⟩ := byteI_list (s := s) (k := 0) (by omega)
    rw [hs] at hc
    have : b = c := by simpa using hc
    subst this
    rw [hci]
    simp only [List.isPrefixOf, Bool.and_true, beq_iff_eq]
    constructor
    · rintro rfl; exact ⟨by omega, rfl⟩
    · rintro ⟨_, h⟩
      have h3 : b.toNat = 45 := by omega
      exact (UInt8.toNat_inj.1 h3).symm
theorem restB_list (s : ByteArray) : listB (restB s) = (listB s).drop 1 := by
  unfold restB; rw [listB_extract, List.take_of_length_le (by rw [listB_len]; exact Nat.le_refl _)]
open Classical in
theorem cutPrefixC : CutPrefixC := fun s w => by
  have h := Tryz.strings_CutPrefix s ⟨#[45]⟩ w
  have e1 : Lib.hasPrefix s.data.toList (⟨#[45]⟩ : ByteArray).data.toList = decide (minusP s) := prefix_minus s
  have e2 : Lib.trimPrefix s.data.toList (⟨#[45]⟩ : ByteArray).data.toList = if minusP s then (listB s).drop 1 else listB s := by
    unfold Lib.trimPrefix
    rw [e1]
    by_cases hm : minusP s
    · rw [if_pos hm, if_pos (by simpa using hm)]; rfl
    · rw [if_neg hm, if_neg (by simpa using hm)]; rfl
  rw [e1, e2] at h
  refine ⟨fun hm => ?_, fun hm => ?_⟩
  · rw [if_pos hm, decide_eq_true hm, ← restB_list] at h
    exact h.mono fun e w' ⟨he, hw⟩ => ⟨he.trans (by rw [show (⟨(listB (restB s)).toArray⟩ : ByteArray) = restB s from strB_listB _]), hw⟩
  · rw [if_neg hm, decide_eq_false hm] at h
    exact h.mono fun e w' ⟨he, hw⟩ => ⟨he.trans (by rw [show (⟨(listB s).toArray⟩ : ByteArray) = s from strB_listB _]), hw⟩
theorem cutSuffixC : CutSuffixC := fun s w hs =>
  (Tryz.strings_CutSuffix s ⟨#[10]⟩ w (by omega)).mono fun e w' ⟨he, hw⟩ => ⟨he, hw.symm⟩
theorem cutC : CutC := fun s w hs ⟨m, hm⟩ =>
  (Tryz.strings_Cut s ⟨#[32]⟩ m w (by omega) hm).mono fun e w' ⟨he, n, hw⟩ => ⟨he, by subst hw; exact below_drewN (Below.refl _ _) _⟩
end Go.Proofs.YtfdkmmllemkogaaGreatDoor

/-
  Texts: Lines of every text: the pieces with their ends, without an empty last one.
-/

namespace Go.Proofs.YtfdkmmllemkogaaGreatDoor
open Go.RowKit
set_option linter.unusedVariables false
set_option linter.unusedSimpArgs false

/-- All pieces but the last one, and the last one. -/
def headP (s : ByteArray) : List (List UInt8) := (pieces 10 (listB s)).dropLast
def lastP (s : ByteArray) : List UInt8 := (pieces 10 (listB s)).getLast?.getD []
theorem head_last (s : ByteArray) : pieces 10 (listB s) = headP s ++ [lastP s] := by
  obtain ⟨P, q, h⟩ := pieces_ex 10 (listB s)
  unfold headP lastP
  rw [h]; simp
theorem ended_snoc (c : UInt8) : ∀ (P : List (List UInt8)) (q : List UInt8), ended c (P ++ [q]) = P.map (· ++ [c]) ++ [q]
  | [], q => rfl
  | p :: P, q => by
    have ih := ended_snoc c P q
    show (if P ++ [q] = [] then [p] else (p ++ [c]) :: ended c (P ++ [q])) = _
    rw [if_neg (by simp), ih]; rfl
/-- The lines of a text. -/
def allL (s : ByteArray) : List ByteArray := (headP s).map (fun p => strB (p ++ [10])) ++ [strB (lastP s)]
def linesL (s : ByteArray) : List ByteArray := if (lastP s) = [] then (headP s).map (fun p => strB (p ++ [10])) else allL s
theorem listB_inj {a b : ByteArray} (h : listB a = listB b) : a = b := by rw [← strB_listB a, ← strB_listB b, h]
theorem map_listB_inj : ∀ {L M : List ByteArray}, L.map listB = M.map listB → L = M
  | [], [], _ => rfl
  | [], _ :: _, h => by simp at h
  | _ :: _, [], h => by simp at h
  | a :: L, b :: M, h => by
    rw [List.map_cons, List.map_cons] at h
    injection h with h1 h2
    rw [listB_inj h1, map_listB_inj h2]
theorem split_all (s : ByteArray) : Lib.splitB ⟨#[10]⟩ 1 (Lib.countB s ⟨#[10]⟩) s = allL s := by
  apply map_listB_inj
  have h1 := Lib.splitB_data ⟨#[10]⟩ 1 (Lib.countB s ⟨#[10]⟩) s
  have h2 := lines_pieces 10 (Lib.countB s ⟨#[10]⟩) (listB s) rfl
  have h3 : (Lib.splitB ⟨#[10]⟩ 1 (Lib.countB s ⟨#[10]⟩) s).map listB = Lib.splitK [10] 1 (Lib.countB s ⟨#[10]⟩) (listB s) := h1
  rw [h3, h2, head_last, ended_snoc]
  unfold allL
  rw [List.map_append, List.map_map]; rfl
theorem allL_len (s : ByteArray) : (allL s).length = (headP s).length + 1 := by unfold allL; simp
theorem headP_len (s : ByteArray) : (headP s).length ≤ s.size := by
  have h1 := (splitL_len s 10).2
  have h2 := congrArg List.length (splitL_pieces s 10)
  rw [List.length_map, head_last, List.length_append] at h2
  have h3 : ((10 : UInt8).toNat : Int) = 10 := rfl
  rw [h3] at h2
  simp at h2; omega
theorem count_head (s : ByteArray) : Lib.countB s ⟨#[10]⟩ = (headP s).length := by
  have h := congrArg List.length (split_all s)
  rw [Lib.splitB_all ⟨#[10]⟩ (by decide) 1 _ s rfl, allL_len] at h
  omega
/-- What Lines answers. -/
def LinesV (w : World) (s : ByteArray) (e : Ending) (w' : World) : Prop :=
  ∃ (c : Nat) (cs : Array Value), e = .returned (.slice (some ⟨w.heap.size, 0, none⟩) (linesL s).length c) ∧ w'.heap[w.heap.size]? = some (.cells cs 9 (0, 0)) ∧ (∀ (j : Nat) (x : ByteArray), (linesL s)[j]? = some x → cs[j]? = some (Value.string x)) ∧ Below w.heap.size w w'

set_option maxRecDepth 100000 in
set_option maxHeartbeats 1600000 in
theorem splitAfter_any (s : ByteArray) (w : World) (hs : s.size ≤ 1000001) (hm : MaxAt w) :
    Calls Tryz.prog 237 #[.string s, .string ⟨#[10]⟩] w fun e w' => e = .returned (.slice (some ⟨w.heap.size, 0, none⟩) ((headP s).length + 1) ((headP s).length + 1)) ∧ w' = w.alloc (.cells ((allL s).map Value.string).toArray 9) := by
  obtain ⟨m, hm⟩ := hm
  have hle := headP_len s
  have c := Tryz.strings_genSplit s ⟨#[10]⟩ 1 (-1) ((headP s).length + 1) m w (by omega) hm (by decide) (by decide) (by decide) (by decide) (by rw [if_pos (by decide), count_head]; omega)
  rw [Nat.add_sub_cancel, ← count_head, split_all, allL_len, count_head] at c
  have e2 : Lib.cellsOf (allL s) ((headP s).length + 1) = ((allL s).map Value.string).toArray := by rw [← allL_len]; exact Lib.cellsOf_full _
  rw [e2] at c
  have K := Lib.hid c
  clear c hle e2 hm
  go_enter Tryz.func237, Tryz.ntmps237
  go_wp2_with fail
  refine K.out.mono ?_
  rintro e w1 ⟨rfl, rfl⟩
  go_wp2
  go_ret
  exact ⟨rfl, rfl⟩

set_option maxRecDepth 100000 in
set_option maxHeartbeats 1600000 in
theorem lines_any (s : ByteArray) (w : World) (hs : s.size ≤ 1000001) (hm : MaxAt w) :
    Calls Tryz.prog 220 #[.string s] w (LinesV w s) := by
  have K := Lib.hid (splitAfter_any s w hs hm)
  have hle := headP_len s
  have hlast : ((allL s).map Value.string).toArray[(headP s).length]? = some (.string (strB (lastP s))) := by
    unfold allL; simp
  have hemp := empty_list (strB (lastP s))
  have hcs : ∀ (j : Nat) (x : ByteArray), (linesL s)[j]? = some x → ((allL s).map Value.string).toArray[j]? = some (Value.string x) := by
    intro j x h
    rw [List.getElem?_toArray, List.getElem?_map]
    unfold linesL at h
    split at h
    · unfold allL
      rw [List.getElem?_append_left (List.getElem?_eq_some_iff.1 h).1, h]; rfl
    · rw [h]; rfl
  have hll : (linesL s).length = if lastP s = [] then (headP s).length else (headP s).length + 1 := by
    unfold linesL
    split
    · rw [List.length_map]
    · rw [allL_len]
  have HCS := Lib.hid hcs
  obtain ⟨n, hn⟩ : ∃ n, (headP s).length = n := ⟨_, rfl⟩
  obtain ⟨CS, hCS⟩ : ∃ CS, ((allL s).map Value.string).toArray = CS := ⟨_, rfl⟩
  obtain ⟨q, hq⟩ : ∃ q, lastP s = q := ⟨_, rfl⟩
  rw [hn] at hle hlast hll K
  rw [hq] at hlast hemp hll
  rw [hCS] at hlast K HCS
  rw [strB_size] at hemp
  have HLL := Lib.hid hll
  clear hm hcs hll hn hCS hq
  have hcell : (w.alloc (.cells CS 9)).cell? ⟨w.heap.size, n, none⟩ = some (.string (strB q)) := by
    rw [cell_of_row _ w.heap.size n CS _ (0, 0) (heap_alloc_new w _)]; exact hlast
  obtain ⟨W0, hW0⟩ : ∃ W0, w.alloc (.cells CS 9) = W0 := ⟨_, rfl⟩
  have hblk : W0.heap[w.heap.size]? = some (.cells CS 9 (0, 0)) := by rw [← hW0]; exact heap_alloc_new w _
  have hB : Below w.heap.size w W0 := by rw [← hW0]; exact (Below.refl _ w).alloc (Nat.le_refl _) _
  rw [hW0] at K hcell
  have HB := Lib.hid hB
  have HBK := Lib.hid hblk
  clear hlast hblk hB hW0
  by_cases hqe : q = []
  · have hl : (linesL s).length = n := by rw [HLL.out, if_pos hqe]
    have HL := Lib.hid hl
    rw [hqe] at hemp
    have he : (strB q).toList.isEmpty = true := by rw [hqe]; simpa using hemp
    clear hl hemp hqe
    go_enter Tryz.func220, Tryz.ntmps220
    go_wp2_with fail
    refine K.out.mono ?_
    rintro e w1 ⟨rfl, rfl⟩
    go_wp2
    go_ret
    exact ⟨n + 1, CS, by rw [HL.out]; rfl, HBK.out, HCS.out, HB.out⟩
  · have hl : (linesL s).length = n + 1 := by rw [HLL.out, if_neg hqe]
    have HL := Lib.hid hl
    have he : (strB q).toList.isEmpty = false := by
      rw [hemp]; apply decide_eq_false; intro h; exact hqe (List.eq_nil_of_length_eq_zero h)
    clear hl hemp hqe
    go_enter Tryz.func220, Tryz.ntmps220
    go_wp2_with fail
    refine K.out.mono ?_
    rintro e w1 ⟨rfl, rfl⟩
    go_wp2
    go_ret
    exact ⟨n + 1, CS, by rw [HL.out]; rfl, HBK.out, HCS.out, HB.out⟩
end Go.Proofs.YtfdkmmllemkogaaGreatDoor

/-
  Texts: the reference's Text of an integer: what strconv.Itoa answers.
-/
namespace Go.Proofs.YtfdkmmllemkogaaGreatDoor
open Go.RowKit
set_option linter.unusedVariables false
set_option linter.unusedSimpArgs false

theorem enc_digit {d : Nat} (h : d < 10) : Utf8.encode (48 + (d : Int)) = strB [UInt8.ofNat (48 + d)] := by
  match d, h with
  | 0, _ => decide
  | 1, _ => decide
  | 2, _ => decide
  | 3, _ => decide
  | 4, _ => decide
  | 5, _ => decide
  | 6, _ => decide
  | 7, _ => decide
  | 8, _ => decide
  | 9, _ => decide
theorem listB_append (a b : ByteArray) : listB (a ++ b) = listB a ++ listB b := by
  unfold listB; rw [ByteArray.data_append, Array.toList_append]
/-- What has been written, and what is still to be. -/
def TextSo (N m : Nat) (o : ByteArray) : Prop := (m = 0 → listB o = Lib.decDigits N) ∧ (m ≠ 0 → Lib.decDigits m ++ listB o = Lib.decDigits N)
theorem text_start {N : Nat} (h : 1 ≤ N) : TextSo N N ⟨#[]⟩ := ⟨fun h' => by omega, fun _ => by show _ ++ ([] : List UInt8) = _; rw [List.append_nil]⟩
theorem text_step {N m : Nat} {o : ByteArray} (h : TextSo N m o) (hm : 1 ≤ m) : TextSo N (m / 10) (strB [UInt8.ofNat (48 + m % 10)] ++ o) := by
  have h2 := h.2 (by omega)
  refine ⟨fun h0 => ?_, fun h0 => ?_⟩
  · have hl : m < 10 := by omega
    rw [listB_append, listB_strB, ← h2, Lib.decDigits_one hl, Nat.mod_eq_of_lt hl]
  · have hl : ¬ m < 10 := by omega
    rw [listB_append, listB_strB, ← h2]
    conv => rhs; rw [Lib.decDigits, dif_neg hl]
    rw [List.append_assoc]
theorem text_size {N m : Nat} {o : ByteArray} (h : TextSo N m o) (hN : N < 1000000) : o.size ≤ 20 := by
  have hl := Lib.nDigits_le20 N (by omega)
  rw [← Lib.decDigits_length] at hl
  rw [← listB_len]
  by_cases h0 : m = 0
  · rw [h.1 h0]; exact hl
  · have := congrArg List.length (h.2 h0)
    rw [List.length_append] at this; omega

theorem text_minus (o : ByteArray) : Ending.returned (.string ((⟨#[45]⟩ : ByteArray) ++ o)) = .returned (.string (strB (45 :: listB o))) := by
  have h : (⟨#[45]⟩ : ByteArray) ++ o = strB (45 :: listB o) := by
    apply listB_inj
    rw [listB_append]; rfl
  rw [h]

set_option maxRecDepth 100000 in
set_option maxHeartbeats 3200000 in
theorem refText_any (n : Int) (hn0 : -1000000 < n) (hn1 : n < 1000000) (w : World) :
    Calls Tryz.prog 191 #[.int .i64 n] w fun e w' => e = .returned (.string (strB (Lib.itoa n))) ∧ w = w' := by
  by_cases h0 : n = 0
  · subst h0
    have H := Lib.hid (show Lib.itoa 0 = [48] from by rw [show (0 : Int) = ((0 : Nat) : Int) from rfl, Lib.itoa_nonneg, Lib.decDigits_one (by decide)]; rfl)
    go_enter Tryz.func191, Tryz.ntmps191
    go_wp2
    go_ret
    exact ⟨by rw [H.out]; rfl, rfl⟩
  by_cases hp : 0 < n
  · obtain ⟨N, rfl⟩ : ∃ N : Nat, n = N := ⟨n.toNat, by omega⟩
    have hN : 1 ≤ N := by omega
    have e0 : ((N : Int) == 0) = false := by simp; omega
    have H := Lib.hid (Lib.itoa_nonneg N)
    have hN2 : N < 1000000 := by omega
    clear h0 hn0 hn1
    go_enter Tryz.func191, Tryz.ntmps191
    go_wp2
    go_loop [3, 4] (fun out r => ∃ (m : Nat) (o : ByteArray), m ≤ N ∧ r = .int .i64 m ∧ out = .string o ∧ Hid (TextSo N m o)) (fun _ r => (intOf r).toNat)
    case atStart => exact ⟨N, _, Nat.le_refl _, rfl, rfl, Lib.hid (text_start hN)⟩
    case round =>
      obtain ⟨m, o, hm, rfl, rfl, hT⟩ := hrel
      have hos := text_size hT.out (by omega)
      by_cases hz : m = 0
      · have e1 : ((m : Int) != 0) = false := by simp [hz]
        have HO := Lib.hid (hT.out.1 hz)
        clear hz
        go_wp2
        go_ret
        exact ⟨by rw [H.out, ← HO.out, strB_listB]; rfl, rfl⟩
      · have e1 : ((m : Int) != 0) = true := by simp [hz]
        have HT := Lib.hid (text_step hT.out (by omega))
        obtain ⟨d, hd⟩ : ∃ d, m % 10 = d := ⟨_, rfl⟩
        have hd10 : d < 10 := by omega
        have ed := enc_digit hd10
        have em : (m : Int) % 10 = (d : Int) := by omega
        have eq : (m : Int) / 10 = ((m / 10 : Nat) : Int) := by omega
        rw [hd] at HT
        obtain ⟨q, hq⟩ : ∃ q, m / 10 = q := ⟨_, rfl⟩
        rw [hq] at HT eq
        have hqm : q < m := by omega
        have hqN : q ≤ N := by omega
        have hq6 : q < 1000000 := by omega
        obtain ⟨D, hD⟩ : ∃ D, strB [UInt8.ofNat (48 + d)] = D := ⟨_, rfl⟩
        have hDs : D.size = 1 := by rw [← hD]; rfl
        rw [hD] at ed HT
        have hDi : (D.size : Int) ≤ 8388608 := by omega
        have hcv : ∀ w, (convert 21 9 (.int .i32 (48 + (d : Int)))).run Tryz.prog w = .ok (.string D) w := fun w => by
          rw [run_convert_int_string w _ _ .i32 _ (by rw [Tryz.underlying21]; rfl) Tryz.underlying9, ed]
        have hoi : (o.size : Int) ≤ 8388608 := by omega
        clear hz hd hq hD hDs hm ed
        go_wp2
        go_round
        case rel => exact ⟨q, D ++ o, hqN, rfl, rfl, HT⟩
        case measure => simp [intOf]; omega
  · obtain ⟨N, rfl⟩ : ∃ N : Nat, n = -(N : Int) := ⟨n.natAbs, by omega⟩
    have hN : 1 ≤ N := by omega
    have e0 : (-(N : Int) == 0) = false := by simp; omega
    have e9 : -(N : Int) < 0 := by omega
    have H := Lib.hid (Lib.itoa_neg N hN)
    have hN2 : N < 1000000 := by omega
    clear h0 hn0 hn1
    go_enter Tryz.func191, Tryz.ntmps191
    go_wp2
    go_loop [3, 4] (fun out r => ∃ (m : Nat) (o : ByteArray), m ≤ N ∧ r = .int .i64 (-(m : Int)) ∧ out = .string o ∧ Hid (TextSo N m o)) (fun _ r => (intOf r).natAbs)
    case atStart => exact ⟨N, _, Nat.le_refl _, rfl, rfl, Lib.hid (text_start hN)⟩
    case round =>
      obtain ⟨m, o, hm, rfl, rfl, hT⟩ := hrel
      have hos := text_size hT.out (by omega)
      by_cases hz : m = 0
      · have e1 : (-(m : Int) != 0) = false := by simp [hz]
        have HO := Lib.hid (hT.out.1 hz)
        clear hz
        go_wp2
        go_ret
        exact ⟨by rw [H.out, ← HO.out]; exact text_minus o, rfl⟩
      · have e1 : (-(m : Int) != 0) = true := by simp [hz]
        have HT := Lib.hid (text_step hT.out (by omega))
        obtain ⟨d, hd⟩ : ∃ d, m % 10 = d := ⟨_, rfl⟩
        have hd10 : d < 10 := by omega
        have ed := enc_digit hd10
        have em : (-(m : Int)).tmod 10 = -(d : Int) := by rw [Int.neg_tmod, Int.tmod_eq_emod_of_nonneg (by omega)]; omega
        have eq : (-(m : Int)).tdiv 10 = -((m / 10 : Nat) : Int) := by rw [Int.neg_tdiv, Int.tdiv_eq_ediv_of_nonneg (by omega)]; omega
        rw [hd] at HT
        obtain ⟨q, hq⟩ : ∃ q, m / 10 = q := ⟨_, rfl⟩
        rw [hq] at HT eq
        have hqm : q < m := by omega
        have hqN : q ≤ N := by omega
        have hq6 : q < 1000000 := by omega
        obtain ⟨D, hD⟩ : ∃ D, strB [UInt8.ofNat (48 + d)] = D := ⟨_, rfl⟩
        have hDs : D.size = 1 := by rw [← hD]; rfl
        rw [hD] at ed HT
        have hDi : (D.size : Int) ≤ 8388608 := by omega
        have hcv : ∀ w, (convert 21 9 (.int .i32 (48 + (d : Int)))).run Tryz.prog w = .ok (.string D) w := fun w => by
          rw [run_convert_int_string w _ _ .i32 _ (by rw [Tryz.underlying21]; rfl) Tryz.underlying9, ed]
        have hoi : (o.size : Int) ≤ 8388608 := by omega
        by_cases hd0 : d = 0
        · subst hd0
          have em0 : (-(m : Int)).tmod 10 = 0 := em
          have hcv0 : ∀ w, (convert 21 9 (.int .i32 48)).run Tryz.prog w = .ok (.string D) w := hcv
          clear hz hd hq hD hDs hm ed em hcv
          go_wp2
          go_round
          case rel => exact ⟨q, D ++ o, hqN, rfl, rfl, HT⟩
          case measure => simp [intOf]; omega
        · have hdn : -(d : Int) < 0 := by omega
          have hd1 : 0 < d := by omega
          clear hz hd hq hD hDs hm ed hd0
          go_wp2
          go_round
          case rel => exact ⟨q, D ++ o, hqN, rfl, rfl, HT⟩
          case measure => simp [intOf]; omega
end Go.Proofs.YtfdkmmllemkogaaGreatDoor
