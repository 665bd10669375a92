/-
  DERIVED: THE SHELF's CONTRACTS AT THIS DUMP, IN PLAIN WORDS (tools/lay-plain.mjs out of 'YtfjajpnfjjdnpaaGreatDoorLaidB.lean', which tools/lay-shelf.mjs wrote): THE SAME DECLARATIONS UNDER THE SAME NAMES: 'import', 'namespace', 'open', 'def', 'theorem' AND NOTHING ELSE: no command of the shelf's: FOR A HAND-IN. Each laying: the table of numbers ('.._ren') and one theorem, a field a fact of the dump's own or the kernel's comparison; each contract: ONE APPLICATION.
-/
import Derived.Shelf.Slices.In.SortAlone
import Derived.Shelf.Slices.In.SortNone
import Derived.Shelf.Slices.CompactI
import Derived.Ground.NamesProg
import Derived.Ground.Names2Prog
import Derived.Test.YtfjajpnfjjdnpaaGreatDoorProg
namespace Go.Proofs
open Go.Shelf
def Tryz.sortInts_ren : Go.Shelf.Ren := ⟨fun | 189 => 281 | 125 => 238 | 257 => 303 | 128 => 278 | 129 => 247 | 294 => 316 | 295 => 317 | 296 => 318 | 297 => 319 | 298 => 320 | 299 => 321 | 216 => 322 | 300 => 323 | 301 => 324 | 328 => 329 | 329 => 299 | 330 => 300 | 331 => 330 | 332 => 331 | 215 => 279 | 343 => 333 | n => n, fun | 28 => 99 | 3 => 3 | 46 => 208 | 0 => 0 | 51 => 137 | 53 => 135 | 4 => 4 | 183 => 281 | 182 => 280 | 131 => 108 | 5 => 5 | 9 => 9 | 218 => 300 | 222 => 304 | 228 => 315 | 229 => 112 | n => n, fun | n => n⟩
theorem Tryz.sortInts : Go.Proofs.Lays.n189 Tryz.prog Tryz.sortInts_ren := {
  mixed := by kernel_rfl
  f125 := Tryz.func238.trans (congrArg some (by kernel_rfl))
  f128 := Tryz.func278.trans (congrArg some (by kernel_rfl))
  f129 := Tryz.func247.trans (congrArg some (by kernel_rfl))
  f189 := Tryz.func281.trans (congrArg some (by kernel_rfl))
  f215 := Tryz.func279.trans (congrArg some (by kernel_rfl))
  f216 := Tryz.func322.trans (congrArg some (by kernel_rfl))
  f257 := Tryz.func303.trans (congrArg some (by kernel_rfl))
  f294 := Tryz.func316.trans (congrArg some (by kernel_rfl))
  f295 := Tryz.func317.trans (congrArg some (by kernel_rfl))
  f296 := Tryz.func318.trans (congrArg some (by kernel_rfl))
  f297 := Tryz.func319.trans (congrArg some (by kernel_rfl))
  f298 := Tryz.func320.trans (congrArg some (by kernel_rfl))
  f299 := Tryz.func321.trans (congrArg some (by kernel_rfl))
  f300 := Tryz.func323.trans (congrArg some (by kernel_rfl))
  f301 := Tryz.func324.trans (congrArg some (by kernel_rfl))
  f328 := Tryz.func329.trans (congrArg some (by kernel_rfl))
  f329 := Tryz.func299.trans (congrArg some (by kernel_rfl))
  f330 := Tryz.func300.trans (congrArg some (by kernel_rfl))
  f331 := Tryz.func330.trans (congrArg some (by kernel_rfl))
  f332 := Tryz.func331.trans (congrArg some (by kernel_rfl))
  f343 := Tryz.func333.trans (congrArg some (by kernel_rfl))
  t0 := Tryz.underlying0
  a0 := Tryz.isAgg0
  z0 := Tryz.sizeOf0
  v0 := Tryz.zeroValue0
  t3 := Tryz.underlying3
  a3 := Tryz.isAgg3
  z3 := Tryz.sizeOf3
  v3 := Tryz.zeroValue3
  t4 := Tryz.underlying4
  a4 := Tryz.isAgg4
  z4 := Tryz.sizeOf4
  v4 := Tryz.zeroValue4
  t5 := Tryz.underlying5
  a5 := Tryz.isAgg5
  z5 := Tryz.sizeOf5
  v5 := Tryz.zeroValue5
  t9 := Tryz.underlying9
  a9 := Tryz.isAgg9
  z9 := Tryz.sizeOf9
  v9 := Tryz.zeroValue9
  t28 := Tryz.underlying99
  a28 := Tryz.isAgg99
  z28 := Tryz.sizeOf99
  v28 := Tryz.zeroValue99
  t46 := Tryz.underlying208
  a46 := Tryz.isAgg208
  z46 := Tryz.sizeOf208
  v46 := Tryz.zeroValue208
  t51 := Tryz.underlying137
  a51 := Tryz.isAgg137
  z51 := Tryz.sizeOf137
  v51 := Tryz.zeroValue137
  t53 := Tryz.underlying135
  a53 := Tryz.isAgg135
  z53 := Tryz.sizeOf135
  v53 := Tryz.zeroValue135
  t131 := Tryz.underlying108
  a131 := Tryz.isAgg108
  z131 := Tryz.sizeOf108
  v131 := Tryz.zeroValue108
  t182 := Tryz.underlying280
  a182 := Tryz.isAgg280
  z182 := Tryz.sizeOf280
  v182 := Tryz.zeroValue280
  t183 := Tryz.underlying281
  a183 := Tryz.isAgg281
  z183 := Tryz.sizeOf281
  v183 := Tryz.zeroValue281
  t218 := Tryz.underlying300
  a218 := Tryz.isAgg300
  z218 := Tryz.sizeOf300
  v218 := Tryz.zeroValue300
  t222 := Tryz.underlying304
  a222 := Tryz.isAgg304
  z222 := Tryz.sizeOf304
  v222 := Tryz.zeroValue304
  t228 := Tryz.underlying315
  a228 := Tryz.isAgg315
  z228 := Tryz.sizeOf315
  v228 := Tryz.zeroValue315
  t229 := Tryz.underlying112
  a229 := Tryz.isAgg112
  z229 := Tryz.sizeOf112
  v229 := Tryz.zeroValue112 }
def Tryz.compactInts_ren : Go.Shelf.Ren := ⟨fun | 20 => 282 | n => n, fun | 22 => 99 | 3 => 3 | 4 => 4 | 0 => 0 | n => n, fun | n => n⟩
theorem Tryz.compactInts : Go.Proofs.Lays2.n20 Tryz.prog Tryz.compactInts_ren := {
  mixed := by kernel_rfl
  f20 := Tryz.func282.trans (congrArg some (by kernel_rfl))
  t0 := Tryz.underlying0
  a0 := Tryz.isAgg0
  z0 := Tryz.sizeOf0
  v0 := Tryz.zeroValue0
  t3 := Tryz.underlying3
  a3 := Tryz.isAgg3
  z3 := Tryz.sizeOf3
  v3 := Tryz.zeroValue3
  t4 := Tryz.underlying4
  a4 := Tryz.isAgg4
  z4 := Tryz.sizeOf4
  v4 := Tryz.zeroValue4
  t22 := Tryz.underlying99
  a22 := Tryz.isAgg99
  z22 := Tryz.sizeOf99
  v22 := Tryz.zeroValue99
  i3 := by kernel_rfl }
end Go.Proofs
