import Derived.Shelf.Strings.Builder1
import Derived.Shelf.Strings.Builder2
import Derived.Shelf.Strings.OnBuilder
import Derived.Shelf.Small.Strs
import Derived.Shelf.Small.Wraps
import Derived.Shelf.Strings.BuilderF
import Derived.Shelf.Strings.BuilderK
import Derived.Shelf.Strings.Builder2Cap
import Derived.Shelf.LaysM
import Derived.Shelf.Strconv.Clone
import Derived.Shelf.Strings.Search1
import Derived.Shelf.Strings.Search2
import Derived.Shelf.Strings.Search3
import Derived.Shelf.Strings.Cut
import Derived.Shelf.Strings.Count
import Derived.Shelf.Strings.Shaped
import Derived.Shelf.Strings.Prefix
import Derived.Shelf.Strings.Split
import Derived.Shelf.Unicode.DecodeSlow
import Derived.Shelf.Strings.BuilderCap
import Derived.Shelf.Slices.Equal
import Derived.Shelf.Slices.Empties2
import Derived.Test.YtpnlalfdgngcdaaDoorProg
set_option linter.unusedVariables false
set_option maxRecDepth 100000
namespace Go.Proofs
open Go.Shelf
def Tryd.lays156_ren : Go.Shelf.Ren:=⟨fun | 156=>25 | 165=>41 | 166=>42 | 169=>43 | 240=>56 | 241=>57 | 276=>71 | 277=>72 | n=>n, fun | 31=>22 | 9=>9 | 3=>3 | 4=>4 | 0=>0 | 20=>20 | 72=>74 | 76=>78 | 70=>71 | 37=>72 | 75=>77 | 127=>90 | 164=>101 | 5=>5 | 80=>80 | n=>n, fun | n=>n⟩
theorem Tryd.lays156 : Go.Proofs.Lays.n156 Tryd.prog Tryd.lays156_ren:={
 mixed:=by kernel_rfl
 f156:=Tryd.func25.trans (congrArg some (by kernel_rfl))
 f165:=Tryd.func41.trans (congrArg some (by kernel_rfl))
 f166:=Tryd.func42.trans (congrArg some (by kernel_rfl))
 f169:=Tryd.func43.trans (congrArg some (by kernel_rfl))
 f240:=Tryd.func56.trans (congrArg some (by kernel_rfl))
 f241:=Tryd.func57.trans (congrArg some (by kernel_rfl))
 f276:=Tryd.func71.trans (congrArg some (by kernel_rfl))
 f277:=Tryd.func72.trans (congrArg some (by kernel_rfl))
 t0:=Tryd.underlying0
 a0:=Tryd.isAgg0
 z0:=Tryd.sizeOf0
 v0:=Tryd.zeroValue0
 t3:=Tryd.underlying3
 a3:=Tryd.isAgg3
 z3:=Tryd.sizeOf3
 v3:=Tryd.zeroValue3
 t4:=Tryd.underlying4
 a4:=Tryd.isAgg4
 z4:=Tryd.sizeOf4
 v4:=Tryd.zeroValue4
 t9:=Tryd.underlying9
 a9:=Tryd.isAgg9
 z9:=Tryd.sizeOf9
 v9:=Tryd.zeroValue9
 t20:=Tryd.underlying20
 a20:=Tryd.isAgg20
 z20:=Tryd.sizeOf20
 v20:=Tryd.zeroValue20
 t31:=Tryd.underlying22
 a31:=Tryd.isAgg22
 z31:=Tryd.sizeOf22
 v31:=Tryd.zeroValue22
 t37:=Tryd.underlying72
 a37:=Tryd.isAgg72
 z37:=Tryd.sizeOf72
 v37:=Tryd.zeroValue72
 t70:=Tryd.underlying71
 a70:=Tryd.isAgg71
 z70:=Tryd.sizeOf71
 v70:=Tryd.zeroValue71
 t72:=Tryd.underlying74
 a72:=Tryd.isAgg74
 z72:=Tryd.sizeOf74
 v72:=Tryd.zeroValue74
 t75:=Tryd.underlying77
 a75:=Tryd.isAgg77
 z75:=Tryd.sizeOf77
 v75:=Tryd.zeroValue77
 t76:=Tryd.underlying78
 a76:=Tryd.isAgg78
 z76:=Tryd.sizeOf78
 v76:=Tryd.zeroValue78
 t127:=Tryd.underlying90
 a127:=Tryd.isAgg90
 z127:=Tryd.sizeOf90
 v127:=Tryd.zeroValue90
 t164:=Tryd.underlying101
 a164:=Tryd.isAgg101
 z164:=Tryd.sizeOf101
 v164:=Tryd.zeroValue101 }
theorem Tryd.Builder_Extra_156 : Builder.Extra Tryd.prog Tryd.lays156_ren:={
 sizeBuilder:=by kernel_rfl
 liesBuilder:=by kernel_rfl
 t5:=Tryd.underlying5
 a5:=Tryd.isAgg5
 z5:=Tryd.sizeOf5
 v5:=Tryd.zeroValue5
 infoByte:=by kernel_rfl
 cellsByte:=by kernel_rfl
 sizeByte:=by kernel_rfl
 neB5:=by decide }
open Go.RowKit in
theorem Tryd.strings_Join (bk o c : Nat) (xs : List ByteArray) (sep : ByteArray) (w : World) (hcells : ∀ (j : Nat) x, xs[j]? = some x → w.cell? ⟨bk, o + j, none⟩ = some (.string x)) (hbk : bk < w.heap.size) (hN : xs.length ≤ 140737488355328) (hcap : xs.length ≤ c) (hlen : (Lib.join (xs.map (·.data.toList)) sep.data.toList).length ≤ 140737488355328) :
  Calls Tryd.prog 25 #[.slice (some ⟨bk, o, none⟩) xs.length c, .string sep] w fun e w'=>e = .returned (.string ⟨(Lib.join (xs.map (·.data.toList)) sep.data.toList).toArray⟩) ∧ Below w.heap.size w w':=Any.strings_Join Tryd.lays156 Tryd.Builder_Extra_156 bk o c xs sep w hcells hbk hN hcap hlen
def Tryd.lays137_ren : Go.Shelf.Ren:=⟨fun | 137=>95 | 217=>84 | 266=>91 | n=>n, fun | 9=>9 | 5=>5 | 3=>3 | n=>n, fun | n=>n⟩
theorem Tryd.lays137 : Go.Proofs.Lays.n137 Tryd.prog Tryd.lays137_ren:={
 mixed:=by kernel_rfl
 f137:=Tryd.func95.trans (congrArg some (by kernel_rfl))
 f217:=Tryd.func84.trans (congrArg some (by kernel_rfl))
 f266:=Tryd.func91.trans (congrArg some (by kernel_rfl))
 t3:=Tryd.underlying3
 a3:=Tryd.isAgg3
 z3:=Tryd.sizeOf3
 v3:=Tryd.zeroValue3
 t5:=Tryd.underlying5
 a5:=Tryd.isAgg5
 z5:=Tryd.sizeOf5
 v5:=Tryd.zeroValue5
 t9:=Tryd.underlying9
 a9:=Tryd.isAgg9
 z9:=Tryd.sizeOf9
 v9:=Tryd.zeroValue9 }
open Go.RowKit in
theorem Tryd.strings_IndexByte (s : ByteArray) (c : Int) (w : World) :
  Calls Tryd.prog 95 #[.string s, .int .u8 c] w fun e w'=>e = .returned (.int .i64 (Lib.indexByte s.data.toList c.toNat.toUInt8)) ∧ w' = w:=Any.strings_IndexByte Tryd.lays137 s c w
def Tryd.lays103_ren : Go.Shelf.Ren:=⟨fun | 103=>37 | 210=>50 | 206=>66 | n=>n, fun | 9=>9 | 4=>4 | 24=>67 | 3=>3 | n=>n, fun | n=>n⟩
theorem Tryd.lays103 : Go.Proofs.Lays.n103 Tryd.prog Tryd.lays103_ren:={
 mixed:=by kernel_rfl
 f103:=Tryd.func37.trans (congrArg some (by kernel_rfl))
 f206:=Tryd.func66.trans (congrArg some (by kernel_rfl))
 f210:=Tryd.func50.trans (congrArg some (by kernel_rfl))
 t3:=Tryd.underlying3
 a3:=Tryd.isAgg3
 z3:=Tryd.sizeOf3
 v3:=Tryd.zeroValue3
 t4:=Tryd.underlying4
 a4:=Tryd.isAgg4
 z4:=Tryd.sizeOf4
 v4:=Tryd.zeroValue4
 t9:=Tryd.underlying9
 a9:=Tryd.isAgg9
 z9:=Tryd.sizeOf9
 v9:=Tryd.zeroValue9
 t24:=Tryd.underlying67
 a24:=Tryd.isAgg67
 z24:=Tryd.sizeOf67
 v24:=Tryd.zeroValue67 }
open Go.RowKit in
theorem Tryd.strings_CutPrefix (s p : ByteArray) (w : World) :
  Calls Tryd.prog 37 #[.string s, .string p] w fun e w'=>e = .returned (.tuple #[.string ⟨(Lib.trimPrefix s.data.toList p.data.toList).toArray⟩, .bool (Lib.hasPrefix s.data.toList p.data.toList)]) ∧ w' = w:=Any.strings_CutPrefix Tryd.lays103 s p w
def Tryd.laysM316_ren : Go.Shelf.Ren:=⟨fun | 316=>48 | n=>n, fun | 9=>9 | 3=>3 | 4=>4 | 37=>72 | 0=>0 | 127=>90 | 5=>5 | n=>n, fun | n=>n⟩
theorem Tryd.laysM316 : Go.Proofs.LaysM.n316 Tryd.prog Tryd.laysM316_ren:={
 mixed:=by kernel_rfl
 f316:=Tryd.func48.trans (congrArg some (by kernel_rfl))
 t0:=Tryd.underlying0
 a0:=Tryd.isAgg0
 z0:=Tryd.sizeOf0
 v0:=Tryd.zeroValue0
 t3:=Tryd.underlying3
 a3:=Tryd.isAgg3
 z3:=Tryd.sizeOf3
 v3:=Tryd.zeroValue3
 t4:=Tryd.underlying4
 a4:=Tryd.isAgg4
 z4:=Tryd.sizeOf4
 v4:=Tryd.zeroValue4
 t9:=Tryd.underlying9
 a9:=Tryd.isAgg9
 z9:=Tryd.sizeOf9
 v9:=Tryd.zeroValue9
 t37:=Tryd.underlying72
 a37:=Tryd.isAgg72
 z37:=Tryd.sizeOf72
 v37:=Tryd.zeroValue72
 t127:=Tryd.underlying90
 a127:=Tryd.isAgg90
 z127:=Tryd.sizeOf90
 v127:=Tryd.zeroValue90
 t5:=Tryd.underlying5
 a5:=Tryd.isAgg5
 z5:=Tryd.sizeOf5
 v5:=Tryd.zeroValue5
 i0:=by kernel_rfl
 i3:=by kernel_rfl
 i4:=by kernel_rfl
 i5:=by kernel_rfl
 i9:=by kernel_rfl
 i37:=by kernel_rfl
 i127:=by kernel_rfl }
open Go.RowKit in
theorem Tryd.stringslite_Clone (s : ByteArray) (w : World) (hlim : s.size ≤ 281474976710656) :
  Calls Tryd.prog 48 #[.string s] w fun e w'=>e = .returned (.string s) ∧ Below w.heap.size w w':=Any.stringslite_Clone Tryd.laysM316 s w hlim
def Tryd.lays219_ren : Go.Shelf.Ren:=⟨fun | 219=>76 | 217=>84 | 225=>85 | 224=>86 | 267=>87 | 266=>91 | 314=>92 | n=>n, fun | 9=>9 | 3=>3 | 4=>4 | 5=>5 | 46=>36 | 146=>121 | 51=>120 | n=>n, fun | 1=>0 | n=>n⟩
theorem Tryd.lays219 : Go.Proofs.Lays.n219 Tryd.prog Tryd.lays219_ren:={
 mixed:=by kernel_rfl
 f217:=Tryd.func84.trans (congrArg some (by kernel_rfl))
 f219:=Tryd.func76.trans (congrArg some (by kernel_rfl))
 f224:=Tryd.func86.trans (congrArg some (by kernel_rfl))
 f225:=Tryd.func85.trans (congrArg some (by kernel_rfl))
 f266:=Tryd.func91.trans (congrArg some (by kernel_rfl))
 f267:=Tryd.func87.trans (congrArg some (by kernel_rfl))
 f314:=Tryd.func92.trans (congrArg some (by kernel_rfl))
 t3:=Tryd.underlying3
 a3:=Tryd.isAgg3
 z3:=Tryd.sizeOf3
 v3:=Tryd.zeroValue3
 t4:=Tryd.underlying4
 a4:=Tryd.isAgg4
 z4:=Tryd.sizeOf4
 v4:=Tryd.zeroValue4
 t5:=Tryd.underlying5
 a5:=Tryd.isAgg5
 z5:=Tryd.sizeOf5
 v5:=Tryd.zeroValue5
 t9:=Tryd.underlying9
 a9:=Tryd.isAgg9
 z9:=Tryd.sizeOf9
 v9:=Tryd.zeroValue9
 t46:=Tryd.underlying36
 a46:=Tryd.isAgg36
 z46:=Tryd.sizeOf36
 v46:=Tryd.zeroValue36
 t51:=Tryd.underlying120
 a51:=Tryd.isAgg120
 z51:=Tryd.sizeOf120
 v51:=Tryd.zeroValue120
 t146:=Tryd.underlying121
 a146:=Tryd.isAgg121
 z146:=Tryd.sizeOf121
 v146:=Tryd.zeroValue121
 g1:=by kernel_rfl }
open Go.RowKit Go.Lib in
theorem Tryd.stringslite_Index_one (s : ByteArray) (c : UInt8) (w : World) :
  Calls Tryd.prog 76 #[.string s, .string ⟨#[c]⟩] w fun e w'=>e = .returned (.int .i64 (Lib.indexByte s.data.toList c)) ∧ w' = w:=Any.stringslite_Index_one Tryd.lays219 s c w
def Tryd.lays143_ren : Go.Shelf.Ren:=⟨fun | 143=>64 | 219=>76 | 217=>84 | 225=>85 | 224=>86 | 267=>87 | 266=>91 | 314=>92 | n=>n, fun | 9=>9 | 3=>3 | 4=>4 | 5=>5 | 46=>36 | 146=>121 | 51=>120 | n=>n, fun | 1=>0 | n=>n⟩
theorem Tryd.lays143 : Go.Proofs.Lays.n143 Tryd.prog Tryd.lays143_ren:={
 mixed:=by kernel_rfl
 f143:=Tryd.func64.trans (congrArg some (by kernel_rfl))
 f217:=Tryd.func84.trans (congrArg some (by kernel_rfl))
 f219:=Tryd.func76.trans (congrArg some (by kernel_rfl))
 f224:=Tryd.func86.trans (congrArg some (by kernel_rfl))
 f225:=Tryd.func85.trans (congrArg some (by kernel_rfl))
 f266:=Tryd.func91.trans (congrArg some (by kernel_rfl))
 f267:=Tryd.func87.trans (congrArg some (by kernel_rfl))
 f314:=Tryd.func92.trans (congrArg some (by kernel_rfl))
 t3:=Tryd.underlying3
 a3:=Tryd.isAgg3
 z3:=Tryd.sizeOf3
 v3:=Tryd.zeroValue3
 t4:=Tryd.underlying4
 a4:=Tryd.isAgg4
 z4:=Tryd.sizeOf4
 v4:=Tryd.zeroValue4
 t5:=Tryd.underlying5
 a5:=Tryd.isAgg5
 z5:=Tryd.sizeOf5
 v5:=Tryd.zeroValue5
 t9:=Tryd.underlying9
 a9:=Tryd.isAgg9
 z9:=Tryd.sizeOf9
 v9:=Tryd.zeroValue9
 t46:=Tryd.underlying36
 a46:=Tryd.isAgg36
 z46:=Tryd.sizeOf36
 v46:=Tryd.zeroValue36
 t51:=Tryd.underlying120
 a51:=Tryd.isAgg120
 z51:=Tryd.sizeOf120
 v51:=Tryd.zeroValue120
 t146:=Tryd.underlying121
 a146:=Tryd.isAgg121
 z146:=Tryd.sizeOf121
 v146:=Tryd.zeroValue121
 g1:=by kernel_rfl }
open Go.RowKit Go.Lib in
theorem Tryd.strings_Index_one (s : ByteArray) (c : UInt8) (w : World) :
  Calls Tryd.prog 64 #[.string s, .string ⟨#[c]⟩] w fun e w'=>e = .returned (.int .i64 (Lib.indexByte s.data.toList c)) ∧ w' = w:=Any.strings_Index_one Tryd.lays143 s c w
def Tryd.lays138_ren : Go.Shelf.Ren:=⟨fun | 138=>63 | 195=>73 | 218=>75 | 143=>64 | 219=>76 | 217=>84 | 225=>85 | 224=>86 | 267=>87 | 266=>91 | 314=>92 | n=>n, fun | 9=>9 | 3=>3 | 4=>4 | 5=>5 | 0=>0 | 46=>36 | 146=>121 | 51=>120 | n=>n, fun | 1=>0 | n=>n⟩
theorem Tryd.lays138 : Go.Proofs.Lays.n138 Tryd.prog Tryd.lays138_ren:={
 mixed:=by kernel_rfl
 f138:=Tryd.func63.trans (congrArg some (by kernel_rfl))
 f143:=Tryd.func64.trans (congrArg some (by kernel_rfl))
 f195:=Tryd.func73.trans (congrArg some (by kernel_rfl))
 f217:=Tryd.func84.trans (congrArg some (by kernel_rfl))
 f218:=Tryd.func75.trans (congrArg some (by kernel_rfl))
 f219:=Tryd.func76.trans (congrArg some (by kernel_rfl))
 f224:=Tryd.func86.trans (congrArg some (by kernel_rfl))
 f225:=Tryd.func85.trans (congrArg some (by kernel_rfl))
 f266:=Tryd.func91.trans (congrArg some (by kernel_rfl))
 f267:=Tryd.func87.trans (congrArg some (by kernel_rfl))
 f314:=Tryd.func92.trans (congrArg some (by kernel_rfl))
 t0:=Tryd.underlying0
 a0:=Tryd.isAgg0
 z0:=Tryd.sizeOf0
 v0:=Tryd.zeroValue0
 t3:=Tryd.underlying3
 a3:=Tryd.isAgg3
 z3:=Tryd.sizeOf3
 v3:=Tryd.zeroValue3
 t4:=Tryd.underlying4
 a4:=Tryd.isAgg4
 z4:=Tryd.sizeOf4
 v4:=Tryd.zeroValue4
 t5:=Tryd.underlying5
 a5:=Tryd.isAgg5
 z5:=Tryd.sizeOf5
 v5:=Tryd.zeroValue5
 t9:=Tryd.underlying9
 a9:=Tryd.isAgg9
 z9:=Tryd.sizeOf9
 v9:=Tryd.zeroValue9
 t46:=Tryd.underlying36
 a46:=Tryd.isAgg36
 z46:=Tryd.sizeOf36
 v46:=Tryd.zeroValue36
 t51:=Tryd.underlying120
 a51:=Tryd.isAgg120
 z51:=Tryd.sizeOf120
 v51:=Tryd.zeroValue120
 t146:=Tryd.underlying121
 a146:=Tryd.isAgg121
 z146:=Tryd.sizeOf121
 v146:=Tryd.zeroValue121
 g1:=by kernel_rfl }
open Go.RowKit Go.Lib in
theorem Tryd.strings_Count_one (s : ByteArray) (c : UInt8) (w : World) :
  Calls Tryd.prog 63 #[.string s, .string ⟨#[c]⟩] w fun e w'=>e = .returned (.int .i64 (Lib.countByte s.data.toList c)) ∧ w' = w:=Any.strings_Count_one Tryd.lays138 s c w
def Tryd.lays101_ren : Go.Shelf.Ren:=⟨fun | 101=>49 | 208=>65 | 206=>66 | n=>n, fun | 9=>9 | 4=>4 | 3=>3 | n=>n, fun | n=>n⟩
theorem Tryd.lays101 : Go.Proofs.Lays.n101 Tryd.prog Tryd.lays101_ren:={
 mixed:=by kernel_rfl
 f101:=Tryd.func49.trans (congrArg some (by kernel_rfl))
 f206:=Tryd.func66.trans (congrArg some (by kernel_rfl))
 f208:=Tryd.func65.trans (congrArg some (by kernel_rfl))
 t3:=Tryd.underlying3
 a3:=Tryd.isAgg3
 z3:=Tryd.sizeOf3
 v3:=Tryd.zeroValue3
 t4:=Tryd.underlying4
 a4:=Tryd.isAgg4
 z4:=Tryd.sizeOf4
 v4:=Tryd.zeroValue4
 t9:=Tryd.underlying9
 a9:=Tryd.isAgg9
 z9:=Tryd.sizeOf9
 v9:=Tryd.zeroValue9 }
open Go.RowKit Go.Lib in
theorem Tryd.strings_TrimPrefix (s p : ByteArray) (w : World) :
  Calls Tryd.prog 49 #[.string s, .string p] w fun e w'=>e = .returned (.string ⟨(Lib.trimPrefix s.data.toList p.data.toList).toArray⟩) ∧ w' = w:=Any.strings_TrimPrefix Tryd.lays101 s p w
def Tryd.lays221_ren : Go.Shelf.Ren:=⟨fun | 221=>47 | 268=>62 | 138=>63 | 143=>64 | 195=>73 | 197=>74 | 218=>75 | 219=>76 | 260=>83 | 217=>84 | 225=>85 | 224=>86 | 267=>87 | 266=>91 | 314=>92 | n=>n, fun | 9=>9 | 3=>3 | 31=>22 | 4=>4 | 0=>0 | 105=>105 | 21=>21 | 5=>5 | 46=>36 | 119=>116 | 139=>119 | 138=>118 | 146=>121 | 51=>120 | n=>n, fun | 1=>0 | 3=>1 | 4=>2 | n=>n⟩
theorem Tryd.lays221 : Go.Proofs.Lays.n221 Tryd.prog Tryd.lays221_ren:={
 mixed:=by kernel_rfl
 f138:=Tryd.func63.trans (congrArg some (by kernel_rfl))
 f143:=Tryd.func64.trans (congrArg some (by kernel_rfl))
 f195:=Tryd.func73.trans (congrArg some (by kernel_rfl))
 f197:=Tryd.func74.trans (congrArg some (by kernel_rfl))
 f217:=Tryd.func84.trans (congrArg some (by kernel_rfl))
 f218:=Tryd.func75.trans (congrArg some (by kernel_rfl))
 f219:=Tryd.func76.trans (congrArg some (by kernel_rfl))
 f221:=Tryd.func47.trans (congrArg some (by kernel_rfl))
 f224:=Tryd.func86.trans (congrArg some (by kernel_rfl))
 f225:=Tryd.func85.trans (congrArg some (by kernel_rfl))
 f260:=Tryd.func83.trans (congrArg some (by kernel_rfl))
 f266:=Tryd.func91.trans (congrArg some (by kernel_rfl))
 f267:=Tryd.func87.trans (congrArg some (by kernel_rfl))
 f268:=Tryd.func62.trans (congrArg some (by kernel_rfl))
 f314:=Tryd.func92.trans (congrArg some (by kernel_rfl))
 t0:=Tryd.underlying0
 a0:=Tryd.isAgg0
 z0:=Tryd.sizeOf0
 v0:=Tryd.zeroValue0
 t3:=Tryd.underlying3
 a3:=Tryd.isAgg3
 z3:=Tryd.sizeOf3
 v3:=Tryd.zeroValue3
 t4:=Tryd.underlying4
 a4:=Tryd.isAgg4
 z4:=Tryd.sizeOf4
 v4:=Tryd.zeroValue4
 t5:=Tryd.underlying5
 a5:=Tryd.isAgg5
 z5:=Tryd.sizeOf5
 v5:=Tryd.zeroValue5
 t9:=Tryd.underlying9
 a9:=Tryd.isAgg9
 z9:=Tryd.sizeOf9
 v9:=Tryd.zeroValue9
 t21:=Tryd.underlying21
 a21:=Tryd.isAgg21
 z21:=Tryd.sizeOf21
 v21:=Tryd.zeroValue21
 t31:=Tryd.underlying22
 a31:=Tryd.isAgg22
 z31:=Tryd.sizeOf22
 v31:=Tryd.zeroValue22
 t46:=Tryd.underlying36
 a46:=Tryd.isAgg36
 z46:=Tryd.sizeOf36
 v46:=Tryd.zeroValue36
 t51:=Tryd.underlying120
 a51:=Tryd.isAgg120
 z51:=Tryd.sizeOf120
 v51:=Tryd.zeroValue120
 t105:=Tryd.underlying105
 a105:=Tryd.isAgg105
 z105:=Tryd.sizeOf105
 v105:=Tryd.zeroValue105
 t119:=Tryd.underlying116
 a119:=Tryd.isAgg116
 z119:=Tryd.sizeOf116
 t138:=Tryd.underlying118
 a138:=Tryd.isAgg118
 z138:=Tryd.sizeOf118
 v138:=Tryd.zeroValue118
 t139:=Tryd.underlying119
 a139:=Tryd.isAgg119
 z139:=Tryd.sizeOf119
 v139:=Tryd.zeroValue119
 t146:=Tryd.underlying121
 a146:=Tryd.isAgg121
 z146:=Tryd.sizeOf121
 v146:=Tryd.zeroValue121
 g1:=by kernel_rfl
 g3:=by kernel_rfl
 g4:=by kernel_rfl }
def Tryd.lays193_ren : Go.Shelf.Ren:=⟨fun | 193=>26 | n=>n, fun | 31=>22 | 9=>9 | 4=>4 | 3=>3 | 0=>0 | n=>n, fun | n=>n⟩
theorem Tryd.lays193 : Go.Proofs.Lays.n193 Tryd.prog Tryd.lays193_ren:={
 mixed:=by kernel_rfl
 f193:=Tryd.func26.trans (congrArg some (by kernel_rfl))
 t0:=Tryd.underlying0
 a0:=Tryd.isAgg0
 z0:=Tryd.sizeOf0
 v0:=Tryd.zeroValue0
 t3:=Tryd.underlying3
 a3:=Tryd.isAgg3
 z3:=Tryd.sizeOf3
 v3:=Tryd.zeroValue3
 t4:=Tryd.underlying4
 a4:=Tryd.isAgg4
 z4:=Tryd.sizeOf4
 v4:=Tryd.zeroValue4
 t9:=Tryd.underlying9
 a9:=Tryd.isAgg9
 z9:=Tryd.sizeOf9
 v9:=Tryd.zeroValue9
 t31:=Tryd.underlying22
 a31:=Tryd.isAgg22
 z31:=Tryd.sizeOf22
 v31:=Tryd.zeroValue22 }
open Go.RowKit Go.Lib in
theorem Tryd.slices_Equal_string (b1 o1 n c b2 o2 m d : Nat) (xs ys : List ByteArray) (w : World) (hx : n ≤ xs.length) (hy : m ≤ ys.length) (hbig : n ≤ 9223372036854775807) (hbig2 : m ≤ 9223372036854775807) (hc1 : ∀ j, j < xs.length → w.cell? ⟨b1, o1 + j, none⟩ = some (.string (xs.getD j ByteArray.empty))) (hc2 : ∀ j, j < ys.length → w.cell? ⟨b2, o2 + j, none⟩ = some (.string (ys.getD j ByteArray.empty))) :
  Calls Tryd.prog 26 #[.slice (some ⟨b1, o1, none⟩) n c, .slice (some ⟨b2, o2, none⟩) m d] w fun e w'=>e = .returned (.bool (decide (xs.take n = ys.take m))) ∧ ∃ q, w' = w.drewN q:=Any.slices_Equal_string Tryd.lays193 b1 o1 n c b2 o2 m d xs ys w hx hy hbig hbig2 hc1 hc2
open Go.RowKit Go.Lib in
theorem Tryd.slices_Equal_string_empty (a1 a2 : Option Addr) (c m d : Nat) (w : World) (hbig2 : m ≤ 9223372036854775807) :
  Calls Tryd.prog 26 #[.slice a1 0 c, .slice a2 m d] w fun e w'=>e = .returned (.bool (decide (m = 0))) ∧ w' = w:=Any.slices_Equal_string_empty Tryd.lays193 a1 a2 c m d w hbig2
open Go.RowKit Go.Lib in
theorem Tryd.slices_Equal_string_lens (a1 a2 : Option Addr) (n c m d : Nat) (w : World) (hnm : n ≠ m) :
  Calls Tryd.prog 26 #[.slice a1 n c, .slice a2 m d] w fun e w'=>e = .returned (.bool false) ∧ w' = w:=Any.slices_Equal_string_lens Tryd.lays193 a1 a2 n c m d w hnm
end Go.Proofs
