import Derived.Shelf.Strings.Trim
import Derived.Shelf.Small.Strs
import Derived.Test.YtpdahhnjhggocabGreatDoorProg
namespace Go.Proofs.YtpdahhnjhggocabGreatDoor
open Go.Shelf
def lays161_ren : Go.Shelf.Ren := ⟨fun | 161 => 255 | 231 => 271 | 227 => 272 | 233 => 273 | 235 => 274 | 228 => 283 | 197 => 284 | 151 => 285 | 260 => 292 | 152 => 293 | 137 => 298 | 119 => 299 | 224 => 266 | 225 => 265 | 217 => 264 | 266 => 276 | n => n, fun | 9 => 9 | 4 => 4 | 3 => 3 | 5 => 5 | 117 => 329 | 116 => 328 | 0 => 0 | 124 => 332 | 105 => 343 | 21 => 21 | 119 => 352 | 46 => 179 | 139 => 355 | 138 => 354 | n => n, fun | 3 => 4 | 4 => 5 | n => n⟩
theorem lays161 : Go.Proofs.Lays.n161 Tryz.prog lays161_ren := {
 mixed := by kernel_rfl
 f119 := Tryz.func299.trans (congrArg some (by kernel_rfl))
 f137 := Tryz.func298.trans (congrArg some (by kernel_rfl))
 f151 := Tryz.func285.trans (congrArg some (by kernel_rfl))
 f152 := Tryz.func293.trans (congrArg some (by kernel_rfl))
 f161 := Tryz.func255.trans (congrArg some (by kernel_rfl))
 f197 := Tryz.func284.trans (congrArg some (by kernel_rfl))
 f217 := Tryz.func264.trans (congrArg some (by kernel_rfl))
 f224 := Tryz.func266.trans (congrArg some (by kernel_rfl))
 f225 := Tryz.func265.trans (congrArg some (by kernel_rfl))
 f227 := Tryz.func272.trans (congrArg some (by kernel_rfl))
 f228 := Tryz.func283.trans (congrArg some (by kernel_rfl))
 f231 := Tryz.func271.trans (congrArg some (by kernel_rfl))
 f233 := Tryz.func273.trans (congrArg some (by kernel_rfl))
 f235 := Tryz.func274.trans (congrArg some (by kernel_rfl))
 f260 := Tryz.func292.trans (congrArg some (by kernel_rfl))
 f266 := Tryz.func276.trans (congrArg some (by kernel_rfl))
 t0 := Tryz.underlying0
 a0 := Tryz.isAgg0
 z0 := Tryz.sizeOf0
 v0 := Tryz.zeroValue0
 t3 := Tryz.underlying3
 a3 := Tryz.isAgg3
 z3 := Tryz.sizeOf3
 v3 := Tryz.zeroValue3
 t4 := Tryz.underlying4
 a4 := Tryz.isAgg4
 z4 := Tryz.sizeOf4
 v4 := Tryz.zeroValue4
 t5 := Tryz.underlying5
 a5 := Tryz.isAgg5
 z5 := Tryz.sizeOf5
 v5 := Tryz.zeroValue5
 t9 := Tryz.underlying9
 a9 := Tryz.isAgg9
 z9 := Tryz.sizeOf9
 v9 := Tryz.zeroValue9
 t21 := Tryz.underlying21
 a21 := Tryz.isAgg21
 z21 := Tryz.sizeOf21
 v21 := Tryz.zeroValue21
 t46 := Tryz.underlying179
 a46 := Tryz.isAgg179
 z46 := Tryz.sizeOf179
 v46 := Tryz.zeroValue179
 t105 := Tryz.underlying343
 a105 := Tryz.isAgg343
 z105 := Tryz.sizeOf343
 v105 := Tryz.zeroValue343
 t116 := Tryz.underlying328
 a116 := Tryz.isAgg328
 z116 := Tryz.sizeOf328
 t117 := Tryz.underlying329
 a117 := Tryz.isAgg329
 z117 := Tryz.sizeOf329
 v117 := Tryz.zeroValue329
 t119 := Tryz.underlying352
 a119 := Tryz.isAgg352
 z119 := Tryz.sizeOf352
 t124 := Tryz.underlying332
 a124 := Tryz.isAgg332
 z124 := Tryz.sizeOf332
 v124 := Tryz.zeroValue332
 t138 := Tryz.underlying354
 a138 := Tryz.isAgg354
 z138 := Tryz.sizeOf354
 v138 := Tryz.zeroValue354
 t139 := Tryz.underlying355
 a139 := Tryz.isAgg355
 z139 := Tryz.sizeOf355
 v139 := Tryz.zeroValue355
 g3 := by kernel_rfl
 g4 := by kernel_rfl }
open Go.RowKit in
theorem strings_TrimLeft_one (s : ByteArray) (c : UInt8) (hc : c.toNat < 128) (w : World) :
  Calls Tryz.prog 255 #[.string s, .string ⟨#[c]⟩] w fun e w' => e = .returned (.string ⟨(Lib.trimLeftB s.data.toList c).toArray⟩) ∧ w' = w := Any.strings_TrimLeft_one lays161 s c hc w
def lays137_ren : Go.Shelf.Ren := ⟨fun | 137 => 298 | 217 => 264 | 266 => 276 | n => n, fun | 9 => 9 | 5 => 5 | 3 => 3 | n => n, fun | n => n⟩
theorem lays137 : Go.Proofs.Lays.n137 Tryz.prog lays137_ren := {
 mixed := by kernel_rfl
 f137 := Tryz.func298.trans (congrArg some (by kernel_rfl))
 f217 := Tryz.func264.trans (congrArg some (by kernel_rfl))
 f266 := Tryz.func276.trans (congrArg some (by kernel_rfl))
 t3 := Tryz.underlying3
 a3 := Tryz.isAgg3
 z3 := Tryz.sizeOf3
 v3 := Tryz.zeroValue3
 t5 := Tryz.underlying5
 a5 := Tryz.isAgg5
 z5 := Tryz.sizeOf5
 v5 := Tryz.zeroValue5
 t9 := Tryz.underlying9
 a9 := Tryz.isAgg9
 z9 := Tryz.sizeOf9
 v9 := Tryz.zeroValue9 }
open Go.RowKit in
theorem strings_IndexByte (s : ByteArray) (c : Int) (w : World) :
  Calls Tryz.prog 298 #[.string s, .int .u8 c] w fun e w' => e = .returned (.int .i64 (Lib.indexByte s.data.toList c.toNat.toUInt8)) ∧ w' = w := Any.strings_IndexByte lays137 s c w
end Go.Proofs.YtpdahhnjhggocabGreatDoor
