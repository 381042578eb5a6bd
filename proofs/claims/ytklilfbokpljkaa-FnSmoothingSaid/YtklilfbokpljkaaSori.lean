/-
  DERIVED: THE SHELF's CONTRACTS AT THIS DUMP, IN PLAIN WORDS (tools/lay-plain.mjs out of 'TrySori.lean', which tools/lay-shelf.mjs wrote): THE SAME DECLARATIONS UNDER THE SAME NAMES: 'import', 'namespace', 'open', 'def', 'theorem' AND NOTHING ELSE: no command of the shelf's: FOR A HAND-IN. Each laying: the table of numbers ('.._ren') and one theorem, a field a fact of the dump's own or the kernel's comparison; each contract: ONE APPLICATION.
-/
import Derived.Shelf.Sort.Plain
import Derived.Ground.NamesProg
import Derived.Test.YtklilfbokpljkaaProg
namespace Go.Proofs
open Go.Shelf
def Try.sortI_ren : Go.Shelf.Ren := ⟨fun | 189 => 186 | 125 => 180 | 257 => 203 | 128 => 200 | 129 => 201 | 294 => 209 | 295 => 210 | 296 => 211 | 297 => 212 | 298 => 213 | 299 => 214 | 216 => 215 | 300 => 216 | 301 => 217 | 328 => 219 | 329 => 205 | 330 => 206 | 331 => 220 | 332 => 221 | 215 => 181 | 343 => 222 | n => n, fun | 28 => 43 | 3 => 3 | 46 => 129 | 0 => 0 | 51 => 152 | 53 => 99 | 4 => 4 | 183 => 146 | 182 => 145 | 131 => 36 | 5 => 5 | 9 => 9 | 218 => 156 | 222 => 160 | 228 => 168 | 229 => 79 | n => n, fun | n => n⟩
theorem Try.sortI : Go.Proofs.Lays.n189 Try.prog Try.sortI_ren := {
  mixed := by kernel_rfl
  f125 := Try.func180.trans (congrArg some (by kernel_rfl))
  f128 := Try.func200.trans (congrArg some (by kernel_rfl))
  f129 := Try.func201.trans (congrArg some (by kernel_rfl))
  f189 := Try.func186.trans (congrArg some (by kernel_rfl))
  f215 := Try.func181.trans (congrArg some (by kernel_rfl))
  f216 := Try.func215.trans (congrArg some (by kernel_rfl))
  f257 := Try.func203.trans (congrArg some (by kernel_rfl))
  f294 := Try.func209.trans (congrArg some (by kernel_rfl))
  f295 := Try.func210.trans (congrArg some (by kernel_rfl))
  f296 := Try.func211.trans (congrArg some (by kernel_rfl))
  f297 := Try.func212.trans (congrArg some (by kernel_rfl))
  f298 := Try.func213.trans (congrArg some (by kernel_rfl))
  f299 := Try.func214.trans (congrArg some (by kernel_rfl))
  f300 := Try.func216.trans (congrArg some (by kernel_rfl))
  f301 := Try.func217.trans (congrArg some (by kernel_rfl))
  f328 := Try.func219.trans (congrArg some (by kernel_rfl))
  f329 := Try.func205.trans (congrArg some (by kernel_rfl))
  f330 := Try.func206.trans (congrArg some (by kernel_rfl))
  f331 := Try.func220.trans (congrArg some (by kernel_rfl))
  f332 := Try.func221.trans (congrArg some (by kernel_rfl))
  f343 := Try.func222.trans (congrArg some (by kernel_rfl))
  t0 := Try.underlying0
  a0 := Try.isAgg0
  z0 := Try.sizeOf0
  v0 := Try.zeroValue0
  t3 := Try.underlying3
  a3 := Try.isAgg3
  z3 := Try.sizeOf3
  v3 := Try.zeroValue3
  t4 := Try.underlying4
  a4 := Try.isAgg4
  z4 := Try.sizeOf4
  v4 := Try.zeroValue4
  t5 := Try.underlying5
  a5 := Try.isAgg5
  z5 := Try.sizeOf5
  v5 := Try.zeroValue5
  t9 := Try.underlying9
  a9 := Try.isAgg9
  z9 := Try.sizeOf9
  v9 := Try.zeroValue9
  t28 := Try.underlying43
  a28 := Try.isAgg43
  z28 := Try.sizeOf43
  v28 := Try.zeroValue43
  t46 := Try.underlying129
  a46 := Try.isAgg129
  z46 := Try.sizeOf129
  v46 := Try.zeroValue129
  t51 := Try.underlying152
  a51 := Try.isAgg152
  z51 := Try.sizeOf152
  v51 := Try.zeroValue152
  t53 := Try.underlying99
  a53 := Try.isAgg99
  z53 := Try.sizeOf99
  v53 := Try.zeroValue99
  t131 := Try.underlying36
  a131 := Try.isAgg36
  z131 := Try.sizeOf36
  v131 := Try.zeroValue36
  t182 := Try.underlying145
  a182 := Try.isAgg145
  z182 := Try.sizeOf145
  v182 := Try.zeroValue145
  t183 := Try.underlying146
  a183 := Try.isAgg146
  z183 := Try.sizeOf146
  v183 := Try.zeroValue146
  t218 := Try.underlying156
  a218 := Try.isAgg156
  z218 := Try.sizeOf156
  v218 := Try.zeroValue156
  t222 := Try.underlying160
  a222 := Try.isAgg160
  z222 := Try.sizeOf160
  v222 := Try.zeroValue160
  t228 := Try.underlying168
  a228 := Try.isAgg168
  z228 := Try.sizeOf168
  v228 := Try.zeroValue168
  t229 := Try.underlying79
  a229 := Try.isAgg79
  z229 := Try.sizeOf79
  v229 := Try.zeroValue79 }
end Go.Proofs
