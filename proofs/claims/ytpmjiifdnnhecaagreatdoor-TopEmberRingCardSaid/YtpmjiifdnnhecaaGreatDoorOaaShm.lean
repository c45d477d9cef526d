/-
  The shelf's contracts of strings.CutPrefix, CutSuffix, Cut, genSplit and strconv.Atoi over this program, as the kit's command lays them in plain words.
-/
import Derived.Shelf.Small.Wraps
import Derived.Shelf.Strconv.Atoi
import Derived.Shelf.Strings.Cut
import Derived.Shelf.Strings.Split
import Derived.Test.YtpmjiifdnnhecaaGreatDoorProg
import Derived.Lib.SmallJoins
import Derived.Test.YtpmjiifdnnhecaaGreatDoorOaaSe
import Derived.MapKept
import Derived.WideMake
namespace Go.Proofs
open Go.Shelf
def Tryz.lays103_ren : Go.Shelf.Ren := ⟨fun | 103 => 244 | 210 => 256 | 206 => 270 | n => n, fun | 9 => 9 | 4 => 4 | 24 => 304 | 3 => 3 | n => n, fun | n => n⟩
theorem Tryz.lays103 : Go.Proofs.Lays.n103 Tryz.prog Tryz.lays103_ren := {
  mixed := by kernel_rfl
  f103 := Tryz.func244.trans (congrArg some (by kernel_rfl))
  f206 := Tryz.func270.trans (congrArg some (by kernel_rfl))
  f210 := Tryz.func256.trans (congrArg some (by kernel_rfl))
  t3 := Tryz.underlying3
  a3 := Tryz.isAgg3
  z3 := Tryz.sizeOf3
  v3 := Tryz.zeroValue3
  t4 := Tryz.underlying4
  a4 := Tryz.isAgg4
  z4 := Tryz.sizeOf4
  v4 := Tryz.zeroValue4
  t9 := Tryz.underlying9
  a9 := Tryz.isAgg9
  z9 := Tryz.sizeOf9
  v9 := Tryz.zeroValue9
  t24 := Tryz.underlying304
  a24 := Tryz.isAgg304
  z24 := Tryz.sizeOf304
  v24 := Tryz.zeroValue304 }
open Go.RowKit in
theorem Tryz.strings_CutPrefix (s p : ByteArray) (w : World) :
    Calls Tryz.prog 244 #[.string s, .string p] w fun e w' => e = .returned (.tuple #[.string ⟨(Lib.trimPrefix s.data.toList p.data.toList).toArray⟩, .bool (Lib.hasPrefix s.data.toList p.data.toList)]) ∧ w' = w := Any.strings_CutPrefix Tryz.lays103 s p w
def Tryz.lays104_ren : Go.Shelf.Ren := ⟨fun | 104 => 221 | 211 => 239 | 207 => 253 | n => n, fun | 9 => 9 | 4 => 4 | 24 => 304 | 3 => 3 | n => n, fun | n => n⟩
theorem Tryz.lays104 : Go.Proofs.Lays.n104 Tryz.prog Tryz.lays104_ren := {
  mixed := by kernel_rfl
  f104 := Tryz.func221.trans (congrArg some (by kernel_rfl))
  f207 := Tryz.func253.trans (congrArg some (by kernel_rfl))
  f211 := Tryz.func239.trans (congrArg some (by kernel_rfl))
  t3 := Tryz.underlying3
  a3 := Tryz.isAgg3
  z3 := Tryz.sizeOf3
  v3 := Tryz.zeroValue3
  t4 := Tryz.underlying4
  a4 := Tryz.isAgg4
  z4 := Tryz.sizeOf4
  v4 := Tryz.zeroValue4
  t9 := Tryz.underlying9
  a9 := Tryz.isAgg9
  z9 := Tryz.sizeOf9
  v9 := Tryz.zeroValue9
  t24 := Tryz.underlying304
  a24 := Tryz.isAgg304
  z24 := Tryz.sizeOf304
  v24 := Tryz.zeroValue304 }
open Go.RowKit in
theorem Tryz.strings_CutSuffix (s p : ByteArray) (w : World) (hs : s.size ≤ 9223372036854775807) :
    Calls Tryz.prog 221 #[.string s, .string p] w fun e w' => e = .returned (.tuple #[.string ⟨(Lib.trimSuffix s.data.toList p.data.toList).toArray⟩, .bool (Lib.hasSuffix s.data.toList p.data.toList)]) ∧ w' = w := Any.strings_CutSuffix Tryz.lays104 s p w hs
def Tryz.lays172_ren : Go.Shelf.Ren := ⟨fun | 172 => 257 | 244 => 271 | 245 => 272 | 247 => 278 | 279 => 279 | 280 => 280 | 281 => 281 | 282 => 282 | 287 => 283 | 316 => 284 | 171 => 178 | 205 => 285 | 321 => 286 | 322 => 287 | 243 => 217 | 246 => 235 | 283 => 246 | 284 => 247 | 285 => 248 | 286 => 249 | 129 => 259 | 317 => 258 | 318 => 260 | 319 => 261 | 320 => 262 | 337 => 273 | 338 => 274 | n => n, fun | 9 => 9 | 3 => 3 | 75 => 247 | 76 => 248 | 4 => 4 | 5 => 5 | 167 => 347 | 37 => 143 | 0 => 0 | 85 => 348 | 2 => 2 | 168 => 350 | 53 => 319 | 175 => 359 | 46 => 301 | 210 => 363 | 127 => 295 | 145 => 368 | 143 => 366 | 21 => 21 | 171 => 327 | 173 => 330 | 212 => 337 | 51 => 264 | 20 => 20 | 213 => 338 | 232 => 353 | 233 => 354 | 80 => 253 | n => n, fun | 15 => 8 | 16 => 9 | 17 => 3 | 18 => 4 | 19 => 5 | n => n⟩
theorem Tryz.lays172 : Go.Proofs.Lays.n172 Tryz.prog Tryz.lays172_ren := {
  mixed := by kernel_rfl
  f129 := Tryz.func259.trans (congrArg some (by kernel_rfl))
  f171 := Tryz.func178.trans (congrArg some (by kernel_rfl))
  f172 := Tryz.func257.trans (congrArg some (by kernel_rfl))
  f205 := Tryz.func285.trans (congrArg some (by kernel_rfl))
  f243 := Tryz.func217.trans (congrArg some (by kernel_rfl))
  f244 := Tryz.func271.trans (congrArg some (by kernel_rfl))
  f245 := Tryz.func272.trans (congrArg some (by kernel_rfl))
  f246 := Tryz.func235.trans (congrArg some (by kernel_rfl))
  f247 := Tryz.func278.trans (congrArg some (by kernel_rfl))
  f279 := Tryz.func279.trans (congrArg some (by kernel_rfl))
  f280 := Tryz.func280.trans (congrArg some (by kernel_rfl))
  f281 := Tryz.func281.trans (congrArg some (by kernel_rfl))
  f282 := Tryz.func282.trans (congrArg some (by kernel_rfl))
  f283 := Tryz.func246.trans (congrArg some (by kernel_rfl))
  f284 := Tryz.func247.trans (congrArg some (by kernel_rfl))
  f285 := Tryz.func248.trans (congrArg some (by kernel_rfl))
  f286 := Tryz.func249.trans (congrArg some (by kernel_rfl))
  f287 := Tryz.func283.trans (congrArg some (by kernel_rfl))
  f316 := Tryz.func284.trans (congrArg some (by kernel_rfl))
  f317 := Tryz.func258.trans (congrArg some (by kernel_rfl))
  f318 := Tryz.func260.trans (congrArg some (by kernel_rfl))
  f319 := Tryz.func261.trans (congrArg some (by kernel_rfl))
  f320 := Tryz.func262.trans (congrArg some (by kernel_rfl))
  f321 := Tryz.func286.trans (congrArg some (by kernel_rfl))
  f322 := Tryz.func287.trans (congrArg some (by kernel_rfl))
  f337 := Tryz.func273.trans (congrArg some (by kernel_rfl))
  f338 := Tryz.func274.trans (congrArg some (by kernel_rfl))
  t0 := Tryz.underlying0
  a0 := Tryz.isAgg0
  z0 := Tryz.sizeOf0
  v0 := Tryz.zeroValue0
  t2 := Tryz.underlying2
  a2 := Tryz.isAgg2
  z2 := Tryz.sizeOf2
  v2 := Tryz.zeroValue2
  t3 := Tryz.underlying3
  a3 := Tryz.isAgg3
  z3 := Tryz.sizeOf3
  v3 := Tryz.zeroValue3
  t4 := Tryz.underlying4
  a4 := Tryz.isAgg4
  z4 := Tryz.sizeOf4
  v4 := Tryz.zeroValue4
  t5 := Tryz.underlying5
  a5 := Tryz.isAgg5
  z5 := Tryz.sizeOf5
  v5 := Tryz.zeroValue5
  t9 := Tryz.underlying9
  a9 := Tryz.isAgg9
  z9 := Tryz.sizeOf9
  v9 := Tryz.zeroValue9
  t20 := Tryz.underlying20
  a20 := Tryz.isAgg20
  z20 := Tryz.sizeOf20
  v20 := Tryz.zeroValue20
  t21 := Tryz.underlying21
  a21 := Tryz.isAgg21
  z21 := Tryz.sizeOf21
  v21 := Tryz.zeroValue21
  t37 := Tryz.underlying143
  a37 := Tryz.isAgg143
  z37 := Tryz.sizeOf143
  v37 := Tryz.zeroValue143
  t46 := Tryz.underlying301
  a46 := Tryz.isAgg301
  z46 := Tryz.sizeOf301
  v46 := Tryz.zeroValue301
  t51 := Tryz.underlying264
  a51 := Tryz.isAgg264
  z51 := Tryz.sizeOf264
  v51 := Tryz.zeroValue264
  t53 := Tryz.underlying319
  a53 := Tryz.isAgg319
  z53 := Tryz.sizeOf319
  v53 := Tryz.zeroValue319
  t75 := Tryz.underlying247
  a75 := Tryz.isAgg247
  z75 := Tryz.sizeOf247
  v75 := Tryz.zeroValue247
  t76 := Tryz.underlying248
  a76 := Tryz.isAgg248
  z76 := Tryz.sizeOf248
  v76 := Tryz.zeroValue248
  t85 := Tryz.underlying348
  a85 := Tryz.isAgg348
  z85 := Tryz.sizeOf348
  v85 := Tryz.zeroValue348
  t127 := Tryz.underlying295
  a127 := Tryz.isAgg295
  z127 := Tryz.sizeOf295
  v127 := Tryz.zeroValue295
  t143 := Tryz.underlying366
  a143 := Tryz.isAgg366
  z143 := Tryz.sizeOf366
  v143 := Tryz.zeroValue366
  t145 := Tryz.underlying368
  a145 := Tryz.isAgg368
  z145 := Tryz.sizeOf368
  v145 := Tryz.zeroValue368
  t167 := Tryz.underlying347
  a167 := Tryz.isAgg347
  z167 := Tryz.sizeOf347
  v167 := Tryz.zeroValue347
  t168 := Tryz.underlying350
  a168 := Tryz.isAgg350
  z168 := Tryz.sizeOf350
  v168 := Tryz.zeroValue350
  t171 := Tryz.underlying327
  a171 := Tryz.isAgg327
  z171 := Tryz.sizeOf327
  v171 := Tryz.zeroValue327
  t173 := Tryz.underlying330
  a173 := Tryz.isAgg330
  z173 := Tryz.sizeOf330
  v173 := Tryz.zeroValue330
  t175 := Tryz.underlying359
  a175 := Tryz.isAgg359
  z175 := Tryz.sizeOf359
  v175 := Tryz.zeroValue359
  t210 := Tryz.underlying363
  a210 := Tryz.isAgg363
  z210 := Tryz.sizeOf363
  v210 := Tryz.zeroValue363
  t212 := Tryz.underlying337
  a212 := Tryz.isAgg337
  z212 := Tryz.sizeOf337
  v212 := Tryz.zeroValue337
  t213 := Tryz.underlying338
  a213 := Tryz.isAgg338
  z213 := Tryz.sizeOf338
  t232 := Tryz.underlying353
  a232 := Tryz.isAgg353
  z232 := Tryz.sizeOf353
  v232 := Tryz.zeroValue353
  t233 := Tryz.underlying354
  a233 := Tryz.isAgg354
  z233 := Tryz.sizeOf354
  v233 := Tryz.zeroValue354
  g15 := by kernel_rfl
  g16 := by kernel_rfl
  g17 := by kernel_rfl
  g18 := by kernel_rfl
  g19 := by kernel_rfl }
open Go.RowKit in
theorem Tryz.strconv_Atoi (s : ByteArray) (n : Int) (hl : s.size ≤ 18) (h : Lib.atoi s.data.toList = some n) (w : World) :
    Calls Tryz.prog 257 #[.string s] w fun e w' => e = .returned (.tuple #[.int .i64 n, .nilIface]) ∧ ∃ t, w' = Lib.bytesWorld w 5 t := Any.strconv_Atoi Tryz.lays172 s n hl h w
def Tryz.lays145_ren : Go.Shelf.Ren := ⟨fun | 145 => 223 | 220 => 240 | 219 => 254 | 217 => 266 | 225 => 267 | 224 => 268 | 267 => 269 | 266 => 276 | 314 => 277 | n => n, fun | 9 => 9 | 4 => 4 | 59 => 310 | 3 => 3 | 5 => 5 | 46 => 301 | 146 => 345 | 51 => 264 | n => n, fun | 1 => 2 | n => n⟩
theorem Tryz.lays145 : Go.Proofs.Lays.n145 Tryz.prog Tryz.lays145_ren := {
  mixed := by kernel_rfl
  f145 := Tryz.func223.trans (congrArg some (by kernel_rfl))
  f217 := Tryz.func266.trans (congrArg some (by kernel_rfl))
  f219 := Tryz.func254.trans (congrArg some (by kernel_rfl))
  f220 := Tryz.func240.trans (congrArg some (by kernel_rfl))
  f224 := Tryz.func268.trans (congrArg some (by kernel_rfl))
  f225 := Tryz.func267.trans (congrArg some (by kernel_rfl))
  f266 := Tryz.func276.trans (congrArg some (by kernel_rfl))
  f267 := Tryz.func269.trans (congrArg some (by kernel_rfl))
  f314 := Tryz.func277.trans (congrArg some (by kernel_rfl))
  t3 := Tryz.underlying3
  a3 := Tryz.isAgg3
  z3 := Tryz.sizeOf3
  v3 := Tryz.zeroValue3
  t4 := Tryz.underlying4
  a4 := Tryz.isAgg4
  z4 := Tryz.sizeOf4
  v4 := Tryz.zeroValue4
  t5 := Tryz.underlying5
  a5 := Tryz.isAgg5
  z5 := Tryz.sizeOf5
  v5 := Tryz.zeroValue5
  t9 := Tryz.underlying9
  a9 := Tryz.isAgg9
  z9 := Tryz.sizeOf9
  v9 := Tryz.zeroValue9
  t46 := Tryz.underlying301
  a46 := Tryz.isAgg301
  z46 := Tryz.sizeOf301
  v46 := Tryz.zeroValue301
  t51 := Tryz.underlying264
  a51 := Tryz.isAgg264
  z51 := Tryz.sizeOf264
  v51 := Tryz.zeroValue264
  t59 := Tryz.underlying310
  a59 := Tryz.isAgg310
  z59 := Tryz.sizeOf310
  v59 := Tryz.zeroValue310
  t146 := Tryz.underlying345
  a146 := Tryz.isAgg345
  z146 := Tryz.sizeOf345
  v146 := Tryz.zeroValue345
  g1 := by kernel_rfl }
open Go.RowKit Go.Lib in
theorem Tryz.strings_Cut (s sep : ByteArray) (m : Int) (w : World) (hs : s.size < 4294967281) (hm : w.cell? ⟨2, 0, none⟩ = some (.int .i64 m)) :
    Calls Tryz.prog 223 #[.string s, .string sep] w fun e w' => e = .returned (.tuple #[.string ⟨(Lib.cut s.data.toList sep.data.toList).1.toArray⟩, .string ⟨(Lib.cut s.data.toList sep.data.toList).2.1.toArray⟩, .bool (Lib.cut s.data.toList sep.data.toList).2.2]) ∧ ∃ n, w' = w.drewN n := Any.strings_Cut Tryz.lays145 s sep m w hs hm
def Tryz.lays221_ren : Go.Shelf.Ren := ⟨fun | 221 => 238 | 268 => 250 | 138 => 251 | 143 => 252 | 195 => 263 | 197 => 264 | 218 => 265 | 219 => 254 | 260 => 275 | 217 => 266 | 225 => 267 | 224 => 268 | 267 => 269 | 266 => 276 | 314 => 277 | n => n, fun | 9 => 9 | 3 => 3 | 31 => 112 | 4 => 4 | 0 => 0 | 105 => 340 | 21 => 21 | 5 => 5 | 46 => 301 | 119 => 355 | 139 => 358 | 138 => 357 | 146 => 345 | 51 => 264 | n => n, fun | 1 => 2 | 3 => 6 | 4 => 7 | n => n⟩
theorem Tryz.lays221 : Go.Proofs.Lays.n221 Tryz.prog Tryz.lays221_ren := {
  mixed := by kernel_rfl
  f138 := Tryz.func251.trans (congrArg some (by kernel_rfl))
  f143 := Tryz.func252.trans (congrArg some (by kernel_rfl))
  f195 := Tryz.func263.trans (congrArg some (by kernel_rfl))
  f197 := Tryz.func264.trans (congrArg some (by kernel_rfl))
  f217 := Tryz.func266.trans (congrArg some (by kernel_rfl))
  f218 := Tryz.func265.trans (congrArg some (by kernel_rfl))
  f219 := Tryz.func254.trans (congrArg some (by kernel_rfl))
  f221 := Tryz.func238.trans (congrArg some (by kernel_rfl))
  f224 := Tryz.func268.trans (congrArg some (by kernel_rfl))
  f225 := Tryz.func267.trans (congrArg some (by kernel_rfl))
  f260 := Tryz.func275.trans (congrArg some (by kernel_rfl))
  f266 := Tryz.func276.trans (congrArg some (by kernel_rfl))
  f267 := Tryz.func269.trans (congrArg some (by kernel_rfl))
  f268 := Tryz.func250.trans (congrArg some (by kernel_rfl))
  f314 := Tryz.func277.trans (congrArg some (by kernel_rfl))
  t0 := Tryz.underlying0
  a0 := Tryz.isAgg0
  z0 := Tryz.sizeOf0
  v0 := Tryz.zeroValue0
  t3 := Tryz.underlying3
  a3 := Tryz.isAgg3
  z3 := Tryz.sizeOf3
  v3 := Tryz.zeroValue3
  t4 := Tryz.underlying4
  a4 := Tryz.isAgg4
  z4 := Tryz.sizeOf4
  v4 := Tryz.zeroValue4
  t5 := Tryz.underlying5
  a5 := Tryz.isAgg5
  z5 := Tryz.sizeOf5
  v5 := Tryz.zeroValue5
  t9 := Tryz.underlying9
  a9 := Tryz.isAgg9
  z9 := Tryz.sizeOf9
  v9 := Tryz.zeroValue9
  t21 := Tryz.underlying21
  a21 := Tryz.isAgg21
  z21 := Tryz.sizeOf21
  v21 := Tryz.zeroValue21
  t31 := Tryz.underlying112
  a31 := Tryz.isAgg112
  z31 := Tryz.sizeOf112
  v31 := Tryz.zeroValue112
  t46 := Tryz.underlying301
  a46 := Tryz.isAgg301
  z46 := Tryz.sizeOf301
  v46 := Tryz.zeroValue301
  t51 := Tryz.underlying264
  a51 := Tryz.isAgg264
  z51 := Tryz.sizeOf264
  v51 := Tryz.zeroValue264
  t105 := Tryz.underlying340
  a105 := Tryz.isAgg340
  z105 := Tryz.sizeOf340
  v105 := Tryz.zeroValue340
  t119 := Tryz.underlying355
  a119 := Tryz.isAgg355
  z119 := Tryz.sizeOf355
  t138 := Tryz.underlying357
  a138 := Tryz.isAgg357
  z138 := Tryz.sizeOf357
  v138 := Tryz.zeroValue357
  t139 := Tryz.underlying358
  a139 := Tryz.isAgg358
  z139 := Tryz.sizeOf358
  v139 := Tryz.zeroValue358
  t146 := Tryz.underlying345
  a146 := Tryz.isAgg345
  z146 := Tryz.sizeOf345
  v146 := Tryz.zeroValue345
  g1 := by kernel_rfl
  g3 := by kernel_rfl
  g4 := by kernel_rfl }
open Go.RowKit Go.Lib in
theorem Tryz.strings_genSplit (s sep : ByteArray) (sv : Nat) (n : Int) (N : Nat) (m : Int) (w : World) (hs : s.size < 4294967281) (hm : w.cell? ⟨2, 0, none⟩ = some (.int .i64 m)) (h1 : 1 ≤ sep.size) (hsv : sv ≤ sep.size) (hn0 : n ≠ 0) (hn63 : n ≤ 9223372036854775807) (hN : (N : Int) = min (if n < 0 then (Lib.countB s sep : Int) + 1 else n) ((s.size : Int) + 1)) :
    Calls Tryz.prog 238 #[.string s, .string sep, .int .i64 sv, .int .i64 n] w fun e w' =>
      e = .returned (.slice (some ⟨w.heap.size, 0, none⟩) (Lib.splitB sep sv (N - 1) s).length N) ∧ w' = w.alloc (.cells (Lib.cellsOf (Lib.splitB sep sv (N - 1) s) N) 9) := Any.strings_genSplit Tryz.lays221 (by kernel_rfl) s sep sv n N m w hs hm h1 hsv hn0 hn63 hN
end Go.Proofs

/-
  Texts: what strconv.Atoi, strings.CutPrefix, CutSuffix, Cut and SplitAfter answer, off the shelf's contracts.
-/
namespace Go.Proofs.YtpmjiifdnnhecaaGreatDoor
open Go.RowKit
set_option linter.unusedVariables false
set_option linter.unusedSimpArgs false

theorem digVal_of {b : UInt8} (h : dgt (b.toNat : Int)) : Lib.digitVal b = some (b.toNat - 48) := by
  unfold Lib.digitVal; unfold dgt at h
  rw [if_pos ⟨by omega, by omega⟩]
theorem decFrom_dig (s : ByteArray) (h : digTo s s.size) : ∀ k, k ≤ s.size → Lib.decFrom 0 ((listB s).take k) = some (digV s k).toNat
  | 0, _ => rfl
  | k + 1, hk => by
    obtain ⟨b, hb, hbi⟩ := byteI_list (s := s) (k := k) (by omega)
    have hd := h k (by omega)
    rw [hbi] at hd
    have ih := decFrom_dig s h k (by omega)
    rw [Lib.decFrom_take (listB s) k 0 _ b _ ih hb (digVal_of hd)]
    have h0 := digV_nonneg (s := s) k (fun i hi => h i (by omega))
    unfold dgt at hd
    have e : digV s (k + 1) = 10 * digV s k + (byteI s k - 48) := rfl
    rw [e, hbi]
    congr 1
    omega
theorem atoi_nat {s : ByteArray} (h : natP s) : Lib.atoi s.data.toList = some (digV s s.size) := by
  obtain ⟨h1, h2, h3, h4⟩ := h
  have hd := decFrom_dig s h4 s.size (Nat.le_refl _)
  rw [List.take_of_length_le (by rw [listB_len]; exact Nat.le_refl _)] at hd
  have hn := digV_nonneg (s := s) s.size h4
  obtain ⟨b, hb, hbi⟩ := byteI_list (s := s) (k := 0) (by omega)
  have hb0 := h4 0 (by omega)
  rw [hbi] at hb0
  unfold dgt at hb0
  change Lib.atoi (listB s) = _
  cases hl : listB s with
  | nil => rw [hl] at hb; cases hb
  | cons c r =>
    rw [hl] at hb hd
    have : c = b := by simpa using hb
    subst this
    have e1 : (c == 45) = false := by
      rw [beq_eq_false_iff_ne]; rintro rfl; simp at hb0
    have e2 : (c == 43) = false := by
      rw [beq_eq_false_iff_ne]; rintro rfl; simp at hb0
    unfold Lib.atoi
    simp only [e1, e2, Bool.false_eq_true, if_false]
    unfold Lib.decNat
    simp only [List.isEmpty_cons, Bool.false_eq_true, if_false, hd, Option.map_some]
    congr 1; omega
theorem atoiC : AtoiC := fun s w h =>
  (Tryz.strconv_Atoi s _ (by have := h.2.1; omega) (atoi_nat h) w).mono fun e w' ⟨he, t, hw⟩ => ⟨he, by subst hw; exact Go.Joins.below_bytesWorld _ _ _ _ (Nat.le_refl _)⟩

open Classical in
theorem prefix_minus (s : ByteArray) : Lib.hasPrefix (listB s) [45] = decide (minusP s) := by
  rw [Bool.eq_iff_iff, decide_eq_true_iff]
  unfold minusP Lib.hasPrefix
  have hl := listB_len s
  cases hs : listB s with
  | nil => rw [hs] at hl; simp at hl ⊢; omega
  | cons b r =>
    rw [hs] at hl
    simp at hl
    obtain ⟨c, hc, hci⟩ := byteI_list (s := s) (k := 0) (by omega)
    rw [hs] at hc
    have : b = c := by simpa using hc
    subst this
    rw [hci]
    simp only [List.isPrefixOf, Bool.and_true, beq_iff_eq]
    constructor
    · rintro rfl; exact ⟨by omega, rfl⟩
    · rintro ⟨_, h⟩
      have h3 : b.toNat = 45 := by omega
      exact (UInt8.toNat_inj.1 h3).symm
theorem restB_list (s : ByteArray) : listB (restB s) = (listB s).drop 1 := by
  unfold restB; rw [listB_extract, List.take_of_length_le (by rw [listB_len]; exact Nat.le_refl _)]
open Classical in
theorem cutPrefixC : CutPrefixC := fun s w => by
  have h := Tryz.strings_CutPrefix s ⟨#[45]⟩ w
  have e1 : Lib.hasPrefix s.data.toList (⟨#[45]⟩ : ByteArray).data.toList = decide (minusP s) := prefix_minus s
  have e2 : Lib.trimPrefix s.data.toList (⟨#[45]⟩ : ByteArray).data.toList = if minusP s then (listB s).drop 1 else listB s := by
    unfold Lib.trimPrefix
    rw [e1]
    by_cases hm : minusP s
    · rw [if_pos hm, if_pos (by simpa using hm)]; rfl
    · rw [if_neg hm, if_neg (by simpa using hm)]; rfl
  rw [e1, e2] at h
  refine ⟨fun hm => ?_, fun hm => ?_⟩
  · rw [if_pos hm, decide_eq_true hm, ← restB_list] at h
    exact h.mono fun e w' ⟨he, hw⟩ => ⟨he.trans (by rw [show (⟨(listB (restB s)).toArray⟩ : ByteArray) = restB s from strB_listB _]), hw⟩
  · rw [if_neg hm, decide_eq_false hm] at h
    exact h.mono fun e w' ⟨he, hw⟩ => ⟨he.trans (by rw [show (⟨(listB s).toArray⟩ : ByteArray) = s from strB_listB _]), hw⟩
theorem cutSuffixC : CutSuffixC := fun s w hs =>
  (Tryz.strings_CutSuffix s ⟨#[10]⟩ w (by omega)).mono fun e w' ⟨he, hw⟩ => ⟨he, hw.symm⟩
theorem cutC : CutC := fun s w hs ⟨m, hm⟩ =>
  (Tryz.strings_Cut s ⟨#[32]⟩ m w (by omega) hm).mono fun e w' ⟨he, n, hw⟩ => ⟨he, by subst hw; exact below_drewN (Below.refl _ _) _⟩
end Go.Proofs.YtpmjiifdnnhecaaGreatDoor

/-
  Texts: Lines of every text: the pieces with their ends, without an empty last one.
-/

namespace Go.Proofs.YtpmjiifdnnhecaaGreatDoor
open Go.RowKit
set_option linter.unusedVariables false
set_option linter.unusedSimpArgs false

/-- All pieces but the last one, and the last one. -/
def headP (s : ByteArray) : List (List UInt8) := (pieces 10 (listB s)).dropLast
def lastP (s : ByteArray) : List UInt8 := (pieces 10 (listB s)).getLast?.getD []
theorem head_last (s : ByteArray) : pieces 10 (listB s) = headP s ++ [lastP s] := by
  obtain ⟨P, q, h⟩ := pieces_ex 10 (listB s)
  unfold headP lastP
  rw [h]; simp
theorem ended_snoc (c : UInt8) : ∀ (P : List (List UInt8)) (q : List UInt8), ended c (P ++ [q]) = P.map (· ++ [c]) ++ [q]
  | [], q => rfl
  | p :: P, q => by
    have ih := ended_snoc c P q
    show (if P ++ [q] = [] then [p] else (p ++ [c]) :: ended c (P ++ [q])) = _
    rw [if_neg (by simp), ih]; rfl
/-- The lines of a text. -/
def allL (s : ByteArray) : List ByteArray := (headP s).map (fun p => strB (p ++ [10])) ++ [strB (lastP s)]
def linesL (s : ByteArray) : List ByteArray := if (lastP s) = [] then (headP s).map (fun p => strB (p ++ [10])) else allL s
theorem listB_inj {a b : ByteArray} (h : listB a = listB b) : a = b := by rw [← strB_listB a, ← strB_listB b, h]
theorem map_listB_inj : ∀ {L M : List ByteArray}, L.map listB = M.map listB → L = M
  | [], [], _ => rfl
  | [], _ :: _, h => by simp at h
  | _ :: _, [], h => by simp at h
  | a :: L, b :: M, h => by
    rw [List.map_cons, List.map_cons] at h
    injection h with h1 h2
    rw [listB_inj h1, map_listB_inj h2]
theorem split_all (s : ByteArray) : Lib.splitB ⟨#[10]⟩ 1 (Lib.countB s ⟨#[10]⟩) s = allL s := by
  apply map_listB_inj
  have h1 := Lib.splitB_data ⟨#[10]⟩ 1 (Lib.countB s ⟨#[10]⟩) s
  have h2 := lines_pieces 10 (Lib.countB s ⟨#[10]⟩) (listB s) rfl
  have h3 : (Lib.splitB ⟨#[10]⟩ 1 (Lib.countB s ⟨#[10]⟩) s).map listB = Lib.splitK [10] 1 (Lib.countB s ⟨#[10]⟩) (listB s) := h1
  rw [h3, h2, head_last, ended_snoc]
  unfold allL
  rw [List.map_append, List.map_map]; rfl
theorem allL_len (s : ByteArray) : (allL s).length = (headP s).length + 1 := by unfold allL; simp
theorem headP_len (s : ByteArray) : (headP s).length ≤ s.size := by
  have h1 := (splitL_len s 10).2
  have h2 := congrArg List.length (splitL_pieces s 10)
  rw [List.length_map, head_last, List.length_append] at h2
  have h3 : ((10 : UInt8).toNat : Int) = 10 := rfl
  rw [h3] at h2
  simp at h2; omega
theorem count_head (s : ByteArray) : Lib.countB s ⟨#[10]⟩ = (headP s).length := by
  have h := congrArg List.length (split_all s)
  rw [Lib.splitB_all ⟨#[10]⟩ (by decide) 1 _ s rfl, allL_len] at h
  omega
/-- What Lines answers. -/
def LinesV (w : World) (s : ByteArray) (e : Ending) (w' : World) : Prop :=
  ∃ (c : Nat) (cs : Array Value), e = .returned (.slice (some ⟨w.heap.size, 0, none⟩) (linesL s).length c) ∧ w'.heap[w.heap.size]? = some (.cells cs 9 (0, 0)) ∧ (∀ (j : Nat) (x : ByteArray), (linesL s)[j]? = some x → cs[j]? = some (Value.string x)) ∧ Below w.heap.size w w'

set_option maxRecDepth 100000 in
set_option maxHeartbeats 1600000 in
theorem splitAfter_any (s : ByteArray) (w : World) (hs : s.size ≤ 1000001) (hm : MaxAt w) :
    Calls Tryz.prog 220 #[.string s, .string ⟨#[10]⟩] w fun e w' => e = .returned (.slice (some ⟨w.heap.size, 0, none⟩) ((headP s).length + 1) ((headP s).length + 1)) ∧ w' = w.alloc (.cells ((allL s).map Value.string).toArray 9) := by
  obtain ⟨m, hm⟩ := hm
  have hle := headP_len s
  have c := Tryz.strings_genSplit s ⟨#[10]⟩ 1 (-1) ((headP s).length + 1) m w (by omega) hm (by decide) (by decide) (by decide) (by decide) (by rw [if_pos (by decide), count_head]; omega)
  rw [Nat.add_sub_cancel, ← count_head, split_all, allL_len, count_head] at c
  have e2 : Lib.cellsOf (allL s) ((headP s).length + 1) = ((allL s).map Value.string).toArray := by rw [← allL_len]; exact Lib.cellsOf_full _
  rw [e2] at c
  have K := Lib.hid c
  clear c hle e2 hm
  go_enter Tryz.func220, Tryz.ntmps220
  go_wp2_with fail
  refine K.out.mono ?_
  rintro e w1 ⟨rfl, rfl⟩
  go_wp2
  go_ret
  exact ⟨rfl, rfl⟩

set_option maxRecDepth 100000 in
set_option maxHeartbeats 1600000 in
theorem lines_any (s : ByteArray) (w : World) (hs : s.size ≤ 1000001) (hm : MaxAt w) :
    Calls Tryz.prog 182 #[.string s] w (LinesV w s) := by
  have K := Lib.hid (splitAfter_any s w hs hm)
  have hle := headP_len s
  have hlast : ((allL s).map Value.string).toArray[(headP s).length]? = some (.string (strB (lastP s))) := by
    unfold allL; simp
  have hemp := empty_list (strB (lastP s))
  have hcs : ∀ (j : Nat) (x : ByteArray), (linesL s)[j]? = some x → ((allL s).map Value.string).toArray[j]? = some (Value.string x) := by
    intro j x h
    rw [List.getElem?_toArray, List.getElem?_map]
    unfold linesL at h
    split at h
    · unfold allL
      rw [List.getElem?_append_left (List.getElem?_eq_some_iff.1 h).1, h]; rfl
    · rw [h]; rfl
  have hll : (linesL s).length = if lastP s = [] then (headP s).length else (headP s).length + 1 := by
    unfold linesL
    split
    · rw [List.length_map]
    · rw [allL_len]
  have HCS := Lib.hid hcs
  obtain ⟨n, hn⟩ : ∃ n, (headP s).length = n := ⟨_, rfl⟩
  obtain ⟨CS, hCS⟩ : ∃ CS, ((allL s).map Value.string).toArray = CS := ⟨_, rfl⟩
  obtain ⟨q, hq⟩ : ∃ q, lastP s = q := ⟨_, rfl⟩
  rw [hn] at hle hlast hll K
  rw [hq] at hlast hemp hll
  rw [hCS] at hlast K HCS
  rw [strB_size] at hemp
  have HLL := Lib.hid hll
  clear hm hcs hll hn hCS hq
  have hcell : (w.alloc (.cells CS 9)).cell? ⟨w.heap.size, n, none⟩ = some (.string (strB q)) := by
    rw [cell_of_row _ w.heap.size n CS _ (0, 0) (heap_alloc_new w _)]; exact hlast
  obtain ⟨W0, hW0⟩ : ∃ W0, w.alloc (.cells CS 9) = W0 := ⟨_, rfl⟩
  have hblk : W0.heap[w.heap.size]? = some (.cells CS 9 (0, 0)) := by rw [← hW0]; exact heap_alloc_new w _
  have hB : Below w.heap.size w W0 := by rw [← hW0]; exact (Below.refl _ w).alloc (Nat.le_refl _) _
  rw [hW0] at K hcell
  have HB := Lib.hid hB
  have HBK := Lib.hid hblk
  clear hlast hblk hB hW0
  by_cases hqe : q = []
  · have hl : (linesL s).length = n := by rw [HLL.out, if_pos hqe]
    have HL := Lib.hid hl
    rw [hqe] at hemp
    have he : (strB q).toList.isEmpty = true := by rw [hqe]; simpa using hemp
    clear hl hemp hqe
    go_enter Tryz.func182, Tryz.ntmps182
    go_wp2_with fail
    refine K.out.mono ?_
    rintro e w1 ⟨rfl, rfl⟩
    go_wp2
    go_ret
    exact ⟨n + 1, CS, by rw [HL.out]; rfl, HBK.out, HCS.out, HB.out⟩
  · have hl : (linesL s).length = n + 1 := by rw [HLL.out, if_neg hqe]
    have HL := Lib.hid hl
    have he : (strB q).toList.isEmpty = false := by
      rw [hemp]; apply decide_eq_false; intro h; exact hqe (List.eq_nil_of_length_eq_zero h)
    clear hl hemp hqe
    go_enter Tryz.func182, Tryz.ntmps182
    go_wp2_with fail
    refine K.out.mono ?_
    rintro e w1 ⟨rfl, rfl⟩
    go_wp2
    go_ret
    exact ⟨n + 1, CS, by rw [HL.out]; rfl, HBK.out, HCS.out, HB.out⟩
end Go.Proofs.YtpmjiifdnnhecaaGreatDoor

/-
  Texts: ReadLines of every text, whatever the function is that reads a line (with three captured places): it is called for each line up to the first one with an error.
-/

namespace Go.Proofs.YtpmjiifdnnhecaaGreatDoor
open Go.RowKit
set_option linter.unusedVariables false
set_option linter.unusedSimpArgs false

/-- All blocks of strings are kept, but for the captured places. -/
def KeepT (p1 p2 p3 : Nat) (w w' : World) : Prop := ∀ (k : Nat) (cs : Array Value), k ≠ p1 → k ≠ p2 → k ≠ p3 → w.heap[k]? = some (.cells cs 9 (0, 0)) → w'.heap[k]? = some (.cells cs 9 (0, 0))
/-- What ReadLines answers: the index of the first line with an error and this error, or how many lines there are. -/
def ReadLinesV (n : Nat) (er : Nat → Int) (I : Nat → World → Prop) (e : Ending) (w' : World) : Prop :=
  ∃ k, k ≤ n ∧ (∀ j, j < k → er j = 0) ∧ ((k < n ∧ er k ≠ 0 ∧ e = .returned (.tuple #[.int .i64 k, .int .i64 (er k)]) ∧ I (k + 1) w') ∨ (k = n ∧ e = .returned (.tuple #[.int .i64 n, .int .i64 0]) ∧ I n w'))
theorem readLines_end {n : Nat} {er : Nat → Int} {I : Nat → World → Prop} {w' : World} (h : ∀ j, j < n → er j = 0) (hI : I n w') : ReadLinesV n er I (.returned (.tuple #[.int .i64 n, .int .i64 0])) w' := ⟨n, Nat.le_refl _, h, .inr ⟨rfl, rfl, hI⟩⟩
theorem readLines_bad {n k : Nat} {er : Nat → Int} {I : Nat → World → Prop} {w' : World} {v : Int} (h : ∀ j, j < k → er j = 0) (hk : k < n) (hv : er k = v) (he : v ≠ 0) (hI : I (k + 1) w') : ReadLinesV n er I (.returned (.tuple #[.int .i64 k, .int .i64 v])) w' := ⟨k, Nat.le_of_lt hk, h, .inl ⟨hk, by rw [hv]; exact he, by rw [hv], hI⟩⟩

theorem linesL_len (s : ByteArray) : (linesL s).length ≤ s.size + 1 := by
  have h := headP_len s
  unfold linesL
  split
  · rw [List.length_map]; omega
  · rw [allL_len]; omega

set_option maxRecDepth 100000 in
set_option maxHeartbeats 3200000 in
theorem readLines_any (F : FuncId) (s : ByteArray) (most : Int) (w : World) (hs : s.size ≤ 1000001) (hmost : (s.size : Int) ≤ most) (hmost2 : most ≤ 1000000) (hm : MaxAt w) (p1 p2 p3 : Nat) (er : Nat → Int) (I : Nat → World → Prop)
    (hI : ∀ i W W', I i W → Below W.heap.size W W' → I i W') (h0 : I 0 w)
    (hbody : ∀ (i : Nat) (x : ByteArray) (W : World), (linesL s)[i]? = some x → I i W → Calls Tryz.prog F #[.int .i64 i, .string x, .pointer (some ⟨p1, 0, none⟩), .pointer (some ⟨p2, 0, none⟩), .pointer (some ⟨p3, 0, none⟩)] W fun e W' => e = .returned (.int .i64 (er i)) ∧ I (i + 1) W' ∧ KeepT p1 p2 p3 W W')
    (hp1 : p1 < w.heap.size) (hp2 : p2 < w.heap.size) (hp3 : p3 < w.heap.size)
    (hF : ∀ args w, (callFunc F args).run Tryz.prog w = .ok (.enter F args) w) :
    Calls Tryz.prog 102 #[.string s, .int .i64 most, .func (.func F) #[] #[.pointer (some ⟨p1, 0, none⟩), .pointer (some ⟨p2, 0, none⟩), .pointer (some ⟨p3, 0, none⟩)]] w (ReadLinesV (linesL s).length er I) := by
  have KL := Lib.hid (lines_any s w hs hm)
  have KB := Lib.hid hbody
  have KI := Lib.hid hI
  have K0 := Lib.hid h0
  have hlen := linesL_len s
  clear hbody hI h0 hm
  obtain ⟨L, hL⟩ : ∃ L, linesL s = L := ⟨_, rfl⟩
  unfold LinesV at KL
  rw [hL] at KL KB hlen ⊢
  clear hL
  obtain ⟨n, hn⟩ : ∃ n, L.length = n := ⟨_, rfl⟩
  have HN := Lib.hid hn
  rw [hn] at KL hlen ⊢
  clear hn
  go_enter Tryz.func102, Tryz.ntmps102
  go_wp2_with fail
  refine KL.out.mono ?_
  rintro e w1 ⟨c, cs, rfl, hblk, hcs, hb1⟩
  have HBK := Lib.hid hblk
  have HCS := Lib.hid hcs
  have K1 := Lib.hid (KI.out 0 w w1 K0.out hb1)
  have hlt1 : w.heap.size < w1.heap.size := (Array.getElem?_eq_some_iff.1 hblk).1
  clear hblk hcs hb1
  go_wp2
  go_loopw [20] (fun i wr => ∃ k : Nat, k ≤ n ∧ i = .int .i64 k ∧ Hid (∀ j, j < k → er j = 0) ∧ Hid (I k wr) ∧ Hid (wr.heap[w.heap.size]? = some (.cells cs 9 (0, 0))))
    (fun i _ => n - (intOf i).toNat)
  case atStart => exact ⟨0, Nat.zero_le _, rfl, Lib.hid (fun j h => by omega), K1, HBK⟩
  case round =>
    obtain ⟨k, hk, rfl, hz, hik, hbk⟩ := hrel
    by_cases hlt : k < n
    · obtain ⟨x, hx⟩ : ∃ x, L[k]? = some x := ⟨L[k]'(by rw [HN.out]; exact hlt), List.getElem?_eq_getElem _⟩
      have hcell : wr.cell? ⟨w.heap.size, k, none⟩ = some (.string x) := by
        rw [cell_of_row wr w.heap.size k cs _ (0, 0) hbk.out]; exact HCS.out k x hx
      have KK := Lib.hid (KB.out k x wr hx hik.out)
      obtain ⟨v, hv⟩ : ∃ v, er k = v := ⟨_, rfl⟩
      have HV := Lib.hid hv
      rw [hv] at KK
      clear hx hv
      by_cases hv0 : v = 0
      · have hz' := Lib.hid (show ∀ j, j < k + 1 → er j = 0 from fun j h => by
          by_cases e : j = k
          · subst e; rw [HV.out]; exact hv0
          · exact hz.out j (by omega))
        have ev : (v != 0) = false := by simp [hv0]
        clear hv0
        go_wp2_with fail
        refine KK.out.mono ?_
        rintro e w2 ⟨rfl, hi2, hkt⟩
        have hi2 := Lib.hid hi2
        have hbk2 := Lib.hid (hkt _ _ (by omega) (by omega) (by omega) hbk.out)
        clear hkt
        go_wp2
        go_roundw
        case rel => exact ⟨k + 1, by omega, by go_num, hz', hi2, hbk2⟩
        case measure => first | (simp [intOf]; done) | (simp [intOf]; omega)
      · have ev : (v != 0) = true := by simp [hv0]
        have HV0 := Lib.hid hv0
        clear hv0
        go_wp2_with fail
        refine KK.out.mono ?_
        rintro e w2 ⟨rfl, hi2, hkt⟩
        have hi2 := Lib.hid hi2
        clear hkt
        go_wp2
        go_ret2
        exact readLines_bad hz.out hlt HV.out HV0.out hi2.out
    · obtain rfl : k = n := by omega
      go_wp2
      go_ret2
      exact readLines_end hz.out hik.out
end Go.Proofs.YtpmjiifdnnhecaaGreatDoor

/-
  Texts: maps with known entries; the forms of lines; a line of a map, read.
-/
namespace Go.Proofs.YtpmjiifdnnhecaaGreatDoor
open Go.RowKit
set_option linter.unusedVariables false
set_option linter.unusedSimpArgs false

theorem run_lookup_str {P : Program} {w : World} {mty kt et : TypeId} {r clock i : Nat} {es : Array MapEntry} {s : ByteArray} {v : Value} (hm : P.underlying mty = some (.map kt et)) (hk : P.underlying kt = some .string)
    (hb : w.heap[r]? = some (.map es clock)) (hf : Instr.findNow .string (.string s) es.toList 0 = some (some (i, v))) : (Instr.lookup mty (.map (some r)) (.string s) false).run P w = .ok v w := by
  have hc : (Instr.checkKey es.isEmpty 10000 kt (.string s)).run P w = .ok () w := MapKept.run_checkKey (k := .string s) hk (by simp [MapKept.IsKey]) _ 9999
  simp [Instr.lookup, run_underlying hm, MapKept.run_getObj_map hb, hc, MapKept.run_findKey hk hf, Result.andThen]
theorem run_insert_str {P : Program} {w : World} {mty kt et : TypeId} {r clock : Nat} {es : Array MapEntry} {s : ByteArray} {val : Value} (hm : P.underlying mty = some (.map kt et)) (hk : P.underlying kt = some .string)
    (hb : w.heap[r]? = some (.map es clock)) (hf : Instr.findNow .string (.string s) es.toList 0 = some none) :
    (Instr.mapUpdate mty (.map (some r)) (.string s) val).run P w = .ok () { w with heap := w.heap.setIfInBounds r (.map (es.push { key := .string s, val := val, born := clock }) (clock + 1)) } := by
  have hc : (Instr.checkKey false 10000 kt (.string s)).run P w = .ok () w := MapKept.run_checkKey (k := .string s) hk (by simp [MapKept.IsKey]) false 9999
  simp [Instr.mapUpdate, run_underlying hm, MapKept.run_getObj_map hb, hc, MapKept.run_findKey hk hf, MapKept.run_setObj_map _ hb, Result.andThen]

/-- The form of the first line, and that of the others. -/
def formV (j : Nat) : Value := if j = 0 then .agg #[.func (.func 208) #[] #[]] else .agg #[.func (.func 209) #[] #[]]
def kindW (j : Nat) : ByteArray := if j = 0 then mapW else rowW
def formsE : Array MapEntry := #[{ key := .string mapW, val := formV 0, born := 0 }, { key := .string rowW, val := formV 1, born := 1 }]

theorem below_setBlk {w : World} {r : Nat} {o : Obj} (h : w.heap.size ≤ r + 1) : Below r w { w with heap := w.heap.setIfInBounds r o } :=
  ⟨rfl, rfl, rfl, by simp, fun k hk => by
    show (w.heap.setIfInBounds r o)[k]? = _
    rw [Array.getElem?_setIfInBounds, if_neg (by omega)]⟩

set_option maxRecDepth 100000 in
set_option maxHeartbeats 1600000 in
theorem lineForms_any (w : World) :
    Calls Tryz.prog 161 #[] w fun e w' => e = .returned (.map (some w.heap.size)) ∧ w'.heap[w.heap.size]? = some (.map formsE 2) ∧ Below w.heap.size w w' := by
  have hm : Tryz.prog.underlying 254 = some (.map 9 261) := Tryz.underlying254
  have hk : Tryz.prog.underlying 9 = some .string := Tryz.underlying9
  have m0 := fun w => run_makeMap (P := Tryz.prog) 254 w
  obtain ⟨W1, hW1⟩ : ∃ W1, w.alloc (.map #[] 0) = W1 := ⟨_, rfl⟩
  have hb1 : W1.heap[w.heap.size]? = some (.map #[] 0) := by rw [← hW1]; exact heap_alloc_new w _
  have hB1 : Below w.heap.size w W1 := by rw [← hW1]; exact (Below.refl _ w).alloc (Nat.le_refl _) _
  have hs1 : W1.heap.size = w.heap.size + 1 := by rw [← hW1]; simp
  have u1 := run_insert_str (val := formV 0) (s := mapW) hm hk hb1 rfl
  obtain ⟨W2, hW2⟩ : ∃ W2 : World, { W1 with heap := W1.heap.setIfInBounds w.heap.size (.map (#[].push { key := .string mapW, val := formV 0, born := 0 }) (0 + 1)) } = W2 := ⟨_, rfl⟩
  have hb2 : W2.heap[w.heap.size]? = some (.map #[{ key := .string mapW, val := formV 0, born := 0 }] 1) := by rw [← hW2]; exact (MapKept.heap_set hb1).1
  have hB2 : Below w.heap.size W1 W2 := by rw [← hW2]; exact below_setBlk (by omega)
  have hs2 : W2.heap.size = w.heap.size + 1 := by rw [← hW2]; simpa using hs1
  rw [hW2] at u1
  have u2 := run_insert_str (val := formV 1) (s := rowW) hm hk hb2 rfl
  obtain ⟨W3, hW3⟩ : ∃ W3 : World, { W2 with heap := W2.heap.setIfInBounds w.heap.size (.map ((#[{ key := .string mapW, val := formV 0, born := 0 }] : Array MapEntry).push { key := .string rowW, val := formV 1, born := 1 }) (1 + 1)) } = W3 := ⟨_, rfl⟩
  have hb3 : W3.heap[w.heap.size]? = some (.map formsE 2) := by rw [← hW3]; exact (MapKept.heap_set hb2).1
  have hB3 : Below w.heap.size W2 W3 := by rw [← hW3]; exact below_setBlk (by omega)
  rw [hW3] at u2
  have HB := Lib.hid ((hB1.trans hB2).trans hB3)
  have HK := Lib.hid hb3
  unfold formV mapW at u1
  unfold formV rowW at u2
  simp only [if_true, Nat.one_ne_zero, if_false] at u1 u2
  clear hb1 hB1 hs1 hW2 hb2 hB2 hs2 hW3 hb3 hB3
  go_enter Tryz.func161, Tryz.ntmps161
  go_wp2
  try rw [hW1]
  go_wp2
  go_ret
  exact ⟨rfl, HK.out, HB.out⟩
end Go.Proofs.YtpmjiifdnnhecaaGreatDoor
