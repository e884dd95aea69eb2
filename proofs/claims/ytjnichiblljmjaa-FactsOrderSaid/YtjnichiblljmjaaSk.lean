/- Contracts of functions of the library, laid over this translation in plain words. No condition. -/
import Derived.Test.YtjnichiblljmjaaProg
import Derived.Shelf.Strings.Search2
namespace Go.Proofs
open Go.Shelf
def Try.lays219_ren : Go.Shelf.Ren := ⟨fun | 219 => 153 | 217 => 186 | 225 => 187 | 224 => 188 | 267 => 189 | 266 => 212 | 314 => 213 | n => n, fun | 9 => 9 | 3 => 3 | 4 => 4 | 5 => 5 | 46 => 241 | 146 => 262 | 51 => 261 | n => n, fun | 1 => 0 | n => n⟩
theorem Try.lays219 : Go.Proofs.Lays.n219 Try.prog Try.lays219_ren := {
  mixed := by kernel_rfl
  f217 := Try.func186.trans (congrArg some (by kernel_rfl))
  f219 := Try.func153.trans (congrArg some (by kernel_rfl))
  f224 := Try.func188.trans (congrArg some (by kernel_rfl))
  f225 := Try.func187.trans (congrArg some (by kernel_rfl))
  f266 := Try.func212.trans (congrArg some (by kernel_rfl))
  f267 := Try.func189.trans (congrArg some (by kernel_rfl))
  f314 := Try.func213.trans (congrArg some (by kernel_rfl))
  t3 := Try.underlying3
  a3 := Try.isAgg3
  z3 := Try.sizeOf3
  v3 := Try.zeroValue3
  t4 := Try.underlying4
  a4 := Try.isAgg4
  z4 := Try.sizeOf4
  v4 := Try.zeroValue4
  t5 := Try.underlying5
  a5 := Try.isAgg5
  z5 := Try.sizeOf5
  v5 := Try.zeroValue5
  t9 := Try.underlying9
  a9 := Try.isAgg9
  z9 := Try.sizeOf9
  v9 := Try.zeroValue9
  t46 := Try.underlying241
  a46 := Try.isAgg241
  z46 := Try.sizeOf241
  v46 := Try.zeroValue241
  t51 := Try.underlying261
  a51 := Try.isAgg261
  z51 := Try.sizeOf261
  v51 := Try.zeroValue261
  t146 := Try.underlying262
  a146 := Try.isAgg262
  z146 := Try.sizeOf262
  v146 := Try.zeroValue262
  g1 := by kernel_rfl }
open Go.RowKit Go.Lib in
theorem Try.stringslite_Index_one (s : ByteArray) (c : UInt8) (w : World) :
    Calls Try.prog 153 #[.string s, .string ⟨#[c]⟩] w fun e w' => e = .returned (.int .i64 (Lib.indexByte s.data.toList c)) ∧ w' = w := Any.stringslite_Index_one Try.lays219 s c w
end Go.Proofs
