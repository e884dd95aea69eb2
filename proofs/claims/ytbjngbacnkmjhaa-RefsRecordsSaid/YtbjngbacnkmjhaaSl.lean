/- Contracts of functions of the library, laid over this translation in plain words. No condition. -/
import Derived.Ground.Names2Prog
import Derived.Ground.SlgnProg
import Derived.Test.YtbjngbacnkmjhaaProg
import Derived.Shelf.Sort.Plain
import Derived.Shelf.Slices.CompactS
import Derived.Shelf.Slices.In.SortNone
namespace Go.Proofs
open Go.Shelf
def Try.lays190_ren : Go.Shelf.Ren := ⟨fun | 190 => 153 | 125 => 213 | 258 => 212 | 128 => 265 | 129 => 266 | 302 => 256 | 303 => 257 | 304 => 258 | 305 => 259 | 306 => 260 | 307 => 261 | 308 => 262 | 309 => 263 | 310 => 264 | 333 => 295 | 329 => 296 | 330 => 297 | 334 => 298 | 335 => 299 | 336 => 209 | 344 => 320 | n => n, fun | 31 => 29 | 9 => 9 | 3 => 3 | 46 => 227 | 0 => 0 | 51 => 299 | 53 => 269 | 4 => 4 | 183 => 326 | 182 => 325 | 131 => 286 | 5 => 5 | 218 => 363 | 222 => 367 | 228 => 390 | 229 => 391 | n => n, fun | n => n⟩
theorem Try.lays190 : Go.Proofs.Lays.n190 Try.prog Try.lays190_ren := {
  mixed := by kernel_rfl
  f125 := Try.func213.trans (congrArg some (by kernel_rfl))
  f128 := Try.func265.trans (congrArg some (by kernel_rfl))
  f129 := Try.func266.trans (congrArg some (by kernel_rfl))
  f190 := Try.func153.trans (congrArg some (by kernel_rfl))
  f258 := Try.func212.trans (congrArg some (by kernel_rfl))
  f302 := Try.func256.trans (congrArg some (by kernel_rfl))
  f303 := Try.func257.trans (congrArg some (by kernel_rfl))
  f304 := Try.func258.trans (congrArg some (by kernel_rfl))
  f305 := Try.func259.trans (congrArg some (by kernel_rfl))
  f306 := Try.func260.trans (congrArg some (by kernel_rfl))
  f307 := Try.func261.trans (congrArg some (by kernel_rfl))
  f308 := Try.func262.trans (congrArg some (by kernel_rfl))
  f309 := Try.func263.trans (congrArg some (by kernel_rfl))
  f310 := Try.func264.trans (congrArg some (by kernel_rfl))
  f329 := Try.func296.trans (congrArg some (by kernel_rfl))
  f330 := Try.func297.trans (congrArg some (by kernel_rfl))
  f333 := Try.func295.trans (congrArg some (by kernel_rfl))
  f334 := Try.func298.trans (congrArg some (by kernel_rfl))
  f335 := Try.func299.trans (congrArg some (by kernel_rfl))
  f336 := Try.func209.trans (congrArg some (by kernel_rfl))
  f344 := Try.func320.trans (congrArg some (by kernel_rfl))
  t0 := Try.underlying0
  a0 := Try.isAgg0
  z0 := Try.sizeOf0
  v0 := Try.zeroValue0
  t3 := Try.underlying3
  a3 := Try.isAgg3
  z3 := Try.sizeOf3
  v3 := Try.zeroValue3
  t4 := Try.underlying4
  a4 := Try.isAgg4
  z4 := Try.sizeOf4
  v4 := Try.zeroValue4
  t5 := Try.underlying5
  a5 := Try.isAgg5
  z5 := Try.sizeOf5
  v5 := Try.zeroValue5
  t9 := Try.underlying9
  a9 := Try.isAgg9
  z9 := Try.sizeOf9
  v9 := Try.zeroValue9
  t31 := Try.underlying29
  a31 := Try.isAgg29
  z31 := Try.sizeOf29
  v31 := Try.zeroValue29
  t46 := Try.underlying227
  a46 := Try.isAgg227
  z46 := Try.sizeOf227
  v46 := Try.zeroValue227
  t51 := Try.underlying299
  a51 := Try.isAgg299
  z51 := Try.sizeOf299
  v51 := Try.zeroValue299
  t53 := Try.underlying269
  a53 := Try.isAgg269
  z53 := Try.sizeOf269
  v53 := Try.zeroValue269
  t131 := Try.underlying286
  a131 := Try.isAgg286
  z131 := Try.sizeOf286
  v131 := Try.zeroValue286
  t182 := Try.underlying325
  a182 := Try.isAgg325
  z182 := Try.sizeOf325
  v182 := Try.zeroValue325
  t183 := Try.underlying326
  a183 := Try.isAgg326
  z183 := Try.sizeOf326
  v183 := Try.zeroValue326
  t218 := Try.underlying363
  a218 := Try.isAgg363
  z218 := Try.sizeOf363
  v218 := Try.zeroValue363
  t222 := Try.underlying367
  a222 := Try.isAgg367
  z222 := Try.sizeOf367
  v222 := Try.zeroValue367
  t228 := Try.underlying390
  a228 := Try.isAgg390
  z228 := Try.sizeOf390
  v228 := Try.zeroValue390
  t229 := Try.underlying391
  a229 := Try.isAgg391
  z229 := Try.sizeOf391
  v229 := Try.zeroValue391 }
open Go.Sort Go.RowKit in
theorem Try.slices_Sort_string (blk off cap : Nat) (ss : List (List UInt8)) (w : World) (hH : Holds encStr w blk off ss.toArray) (hblk : blk < w.heap.size) (hsz : ss.length < 4611686018427387904) :
    Calls Try.prog 153 #[.slice (some ⟨blk, off, none⟩) ss.length cap] w fun e w' =>
      e = .returned (.tuple #[]) ∧ ∃ n os, w' = grow (putRow encStr (Sort.ahead w n) blk off (ss.mergeSort fun x y => decide (x ≤ y)).toArray) os := Any.slices_Sort_string Try.lays190 blk off cap ss w hH hblk hsz
def Try.lays194_ren : Go.Shelf.Ren := ⟨fun | 194 => 154 | n => n, fun | 31 => 29 | 9 => 9 | 3 => 3 | 4 => 4 | 0 => 0 | n => n, fun | n => n⟩
theorem Try.lays194 : Go.Proofs.Lays.n194 Try.prog Try.lays194_ren := {
  mixed := by kernel_rfl
  f194 := Try.func154.trans (congrArg some (by kernel_rfl))
  t0 := Try.underlying0
  a0 := Try.isAgg0
  z0 := Try.sizeOf0
  v0 := Try.zeroValue0
  t3 := Try.underlying3
  a3 := Try.isAgg3
  z3 := Try.sizeOf3
  v3 := Try.zeroValue3
  t4 := Try.underlying4
  a4 := Try.isAgg4
  z4 := Try.sizeOf4
  v4 := Try.zeroValue4
  t9 := Try.underlying9
  a9 := Try.isAgg9
  z9 := Try.sizeOf9
  v9 := Try.zeroValue9
  t31 := Try.underlying29
  a31 := Try.isAgg29
  z31 := Try.sizeOf29
  v31 := Try.zeroValue29 }
open Go.RowKit Go.Lib Go.Sort in
theorem Try.slices_Compact_string (blk off cap : Nat) (zs : List (List UInt8)) (w : World) (hH : Holds encStr w blk off zs.toArray) (hsz : zs.length ≤ 9223372036854775807) (hcap : zs.length ≤ cap) :
    Calls Try.prog 154 #[.slice (some ⟨blk, off, none⟩) zs.length cap] w fun e w' => e = .returned (.slice (some ⟨blk, off, none⟩) (Lib.compact zs).length cap) ∧ ∃ q, w' = putRow encStr (Sort.ahead w q) blk off (Lib.compact zs ++ List.replicate (zs.length - (Lib.compact zs).length) []).toArray := Any.slices_Compact_string Try.lays194 blk off cap zs w hH hsz hcap
open Go.RowKit Go.Lib Go.Sort in
theorem Try.slices_Compact_string_empty (a : Option Addr) (cap : Nat) (w : World) :
    Calls Try.prog 154 #[.slice a 0 cap] w fun e w' => e = .returned (.slice a 0 cap) ∧ w' = w := Any.slices_Compact_string_empty Try.lays194 a cap w
open Go.RowKit Go.Sort in
theorem Try.slices_Sort_string_none (p : Option Addr) (cap : Nat) (w : World) :
    Calls Try.prog 153 #[.slice p 0 cap] w fun e w' => e = .returned (.tuple #[]) ∧ w' = w := Any.slices_Sort_string_none Try.lays190 p cap w
end Go.Proofs
