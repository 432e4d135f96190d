import Derived.Shelf.Small.Wraps
import Derived.Shelf.Strconv.Itoa0
import Derived.Shelf.Strconv.Itoa1
import Derived.Shelf.LaysM
import Derived.Shelf.Strconv.Itoa2
import Derived.Shelf.Strconv.Itoa3
import Derived.Shelf.Strconv.Itoa4
import Derived.Shelf.Strconv.ParseIntEmpty
import Derived.Shelf.Strconv.Clone
import Derived.Shelf.Strconv.SyntaxError
import Derived.Shelf.LaysC
import Derived.Shelf.Strconv.ToError
import Derived.Shelf.Strconv.Lower
import Derived.Shelf.Strconv.ParseUint10
import Derived.Shelf.Strconv.ParseUint10Empty
import Derived.Shelf.Strconv.ParseUint10Any
import Derived.Shelf.Strconv.ParseInt10
import Derived.Shelf.Strconv.RangeError
import Derived.Shelf.Strconv.ToErrorRange
import Derived.Shelf.Strconv.ParseUintEmpty
import Derived.Shelf.Strconv.ParseUint10b64
import Derived.Shelf.Strconv.ParseUint10b32
import Derived.Shelf.Strconv.ParseUint10b16
import Derived.Shelf.Strconv.ParseUint10b8
import Derived.Shelf.Strconv.ParseUint10At
import Derived.Shelf.Strconv.ParseInt10At64
import Derived.Shelf.Strconv.ParseInt10At32
import Derived.Shelf.Strconv.ParseInt10At16
import Derived.Shelf.Strconv.ParseInt10At8
import Derived.Shelf.Strconv.ParseInt10All
import Derived.Shelf.Strconv.ParseIntPublic10
import Derived.Shelf.Strings.Search1
import Derived.Shelf.Strings.Search2
import Derived.Shelf.Strings.Cut
import Derived.Shelf.Strings.Shaped
import Derived.Test.YtbnebpdpeegpbaaDoorProg
set_option linter.unusedVariables false
set_option maxRecDepth 100000
namespace Go.Proofs
open Go.Shelf
def Tryd.laysM171_ren : Go.Shelf.Ren:=⟨fun | 171=>31 | 243=>38 | 246=>37 | 283=>42 | 284=>43 | 285=>44 | 286=>45 | 129=>56 | 317=>55 | 318=>57 | 319=>58 | 320=>59 | 337=>66 | 338=>67 | n=>n, fun | 3=>3 | 9=>9 | 2=>2 | 4=>4 | 171=>73 | 0=>0 | 53=>66 | 37=>67 | 5=>5 | 173=>76 | 212=>88 | 51=>89 | 20=>20 | 213=>90 | 46=>80 | 232=>105 | 233=>106 | n=>n, fun | 17=>1 | 18=>4 | 19=>5 | n=>n⟩
theorem Tryd.laysM171 : Go.Proofs.LaysM.n171 Tryd.prog Tryd.laysM171_ren:={
 mixed:=by kernel_rfl
 f129:=Tryd.func56.trans (congrArg some (by kernel_rfl))
 f171:=Tryd.func31.trans (congrArg some (by kernel_rfl))
 f243:=Tryd.func38.trans (congrArg some (by kernel_rfl))
 f246:=Tryd.func37.trans (congrArg some (by kernel_rfl))
 f283:=Tryd.func42.trans (congrArg some (by kernel_rfl))
 f284:=Tryd.func43.trans (congrArg some (by kernel_rfl))
 f285:=Tryd.func44.trans (congrArg some (by kernel_rfl))
 f286:=Tryd.func45.trans (congrArg some (by kernel_rfl))
 f317:=Tryd.func55.trans (congrArg some (by kernel_rfl))
 f318:=Tryd.func57.trans (congrArg some (by kernel_rfl))
 f319:=Tryd.func58.trans (congrArg some (by kernel_rfl))
 f320:=Tryd.func59.trans (congrArg some (by kernel_rfl))
 f337:=Tryd.func66.trans (congrArg some (by kernel_rfl))
 f338:=Tryd.func67.trans (congrArg some (by kernel_rfl))
 t0:=Tryd.underlying0
 a0:=Tryd.isAgg0
 z0:=Tryd.sizeOf0
 v0:=Tryd.zeroValue0
 t2:=Tryd.underlying2
 a2:=Tryd.isAgg2
 z2:=Tryd.sizeOf2
 v2:=Tryd.zeroValue2
 t3:=Tryd.underlying3
 a3:=Tryd.isAgg3
 z3:=Tryd.sizeOf3
 v3:=Tryd.zeroValue3
 t4:=Tryd.underlying4
 a4:=Tryd.isAgg4
 z4:=Tryd.sizeOf4
 v4:=Tryd.zeroValue4
 t5:=Tryd.underlying5
 a5:=Tryd.isAgg5
 z5:=Tryd.sizeOf5
 v5:=Tryd.zeroValue5
 t9:=Tryd.underlying9
 a9:=Tryd.isAgg9
 z9:=Tryd.sizeOf9
 v9:=Tryd.zeroValue9
 t20:=Tryd.underlying20
 a20:=Tryd.isAgg20
 z20:=Tryd.sizeOf20
 v20:=Tryd.zeroValue20
 t37:=Tryd.underlying67
 a37:=Tryd.isAgg67
 z37:=Tryd.sizeOf67
 v37:=Tryd.zeroValue67
 t46:=Tryd.underlying80
 a46:=Tryd.isAgg80
 z46:=Tryd.sizeOf80
 v46:=Tryd.zeroValue80
 t51:=Tryd.underlying89
 a51:=Tryd.isAgg89
 z51:=Tryd.sizeOf89
 v51:=Tryd.zeroValue89
 t53:=Tryd.underlying66
 a53:=Tryd.isAgg66
 z53:=Tryd.sizeOf66
 v53:=Tryd.zeroValue66
 t171:=Tryd.underlying73
 a171:=Tryd.isAgg73
 z171:=Tryd.sizeOf73
 v171:=Tryd.zeroValue73
 t173:=Tryd.underlying76
 a173:=Tryd.isAgg76
 z173:=Tryd.sizeOf76
 v173:=Tryd.zeroValue76
 t212:=Tryd.underlying88
 a212:=Tryd.isAgg88
 z212:=Tryd.sizeOf88
 v212:=Tryd.zeroValue88
 t213:=Tryd.underlying90
 a213:=Tryd.isAgg90
 z213:=Tryd.sizeOf90
 t232:=Tryd.underlying105
 a232:=Tryd.isAgg105
 z232:=Tryd.sizeOf105
 v232:=Tryd.zeroValue105
 t233:=Tryd.underlying106
 a233:=Tryd.isAgg106
 z233:=Tryd.sizeOf106
 v233:=Tryd.zeroValue106
 g17:=by kernel_rfl
 g18:=by kernel_rfl
 g19:=by kernel_rfl
 i0:=by kernel_rfl
 i2:=by kernel_rfl
 i3:=by kernel_rfl
 i4:=by kernel_rfl
 i5:=by kernel_rfl
 i9:=by kernel_rfl
 i20:=by kernel_rfl
 i37:=by kernel_rfl
 i46:=by kernel_rfl
 i51:=by kernel_rfl
 i53:=by kernel_rfl
 i171:=by kernel_rfl
 i173:=by kernel_rfl
 i212:=by kernel_rfl
 i232:=by kernel_rfl
 i233:=by kernel_rfl
 m17:=by kernel_rfl
 m18:=by kernel_rfl
 m19:=by kernel_rfl }
open Go.RowKit Go.Sort Go.Lib in
theorem Tryd.strconv_Itoa (n : Int) (h0 : -9223372036854775808 ≤ n) (h1 : n ≤ 9223372036854775807) (w : World) (htab : Lib.TabIs Tryd.prog w "internal/strconv.uint64pow10" .u64 Lib.pow10Tab) :
  Calls Tryd.prog 31 #[.int .i64 n] w fun e w'=>e = .returned (.string ⟨(Lib.itoa n).toArray⟩) ∧ ∃ k os, w' = grow (w.drewN k) os:=Any.strconv_Itoa Tryd.laysM171 n h0 h1 w htab
def Tryd.laysM173_ren : Go.Shelf.Ren:=⟨fun | 173=>30 | 246=>37 | 283=>42 | 284=>43 | 285=>44 | 286=>45 | 129=>56 | 317=>55 | 318=>57 | 319=>58 | 320=>59 | 337=>66 | 338=>67 | n=>n, fun | 2=>2 | 3=>3 | 9=>9 | 4=>4 | 171=>73 | 0=>0 | 53=>66 | 37=>67 | 5=>5 | 173=>76 | 212=>88 | 51=>89 | 20=>20 | 213=>90 | 46=>80 | 232=>105 | 233=>106 | n=>n, fun | 17=>1 | 18=>4 | 19=>5 | n=>n⟩
theorem Tryd.laysM173 : Go.Proofs.LaysM.n173 Tryd.prog Tryd.laysM173_ren:={
 mixed:=by kernel_rfl
 f129:=Tryd.func56.trans (congrArg some (by kernel_rfl))
 f173:=Tryd.func30.trans (congrArg some (by kernel_rfl))
 f246:=Tryd.func37.trans (congrArg some (by kernel_rfl))
 f283:=Tryd.func42.trans (congrArg some (by kernel_rfl))
 f284:=Tryd.func43.trans (congrArg some (by kernel_rfl))
 f285:=Tryd.func44.trans (congrArg some (by kernel_rfl))
 f286:=Tryd.func45.trans (congrArg some (by kernel_rfl))
 f317:=Tryd.func55.trans (congrArg some (by kernel_rfl))
 f318:=Tryd.func57.trans (congrArg some (by kernel_rfl))
 f319:=Tryd.func58.trans (congrArg some (by kernel_rfl))
 f320:=Tryd.func59.trans (congrArg some (by kernel_rfl))
 f337:=Tryd.func66.trans (congrArg some (by kernel_rfl))
 f338:=Tryd.func67.trans (congrArg some (by kernel_rfl))
 t0:=Tryd.underlying0
 a0:=Tryd.isAgg0
 z0:=Tryd.sizeOf0
 v0:=Tryd.zeroValue0
 t2:=Tryd.underlying2
 a2:=Tryd.isAgg2
 z2:=Tryd.sizeOf2
 v2:=Tryd.zeroValue2
 t3:=Tryd.underlying3
 a3:=Tryd.isAgg3
 z3:=Tryd.sizeOf3
 v3:=Tryd.zeroValue3
 t4:=Tryd.underlying4
 a4:=Tryd.isAgg4
 z4:=Tryd.sizeOf4
 v4:=Tryd.zeroValue4
 t5:=Tryd.underlying5
 a5:=Tryd.isAgg5
 z5:=Tryd.sizeOf5
 v5:=Tryd.zeroValue5
 t9:=Tryd.underlying9
 a9:=Tryd.isAgg9
 z9:=Tryd.sizeOf9
 v9:=Tryd.zeroValue9
 t20:=Tryd.underlying20
 a20:=Tryd.isAgg20
 z20:=Tryd.sizeOf20
 v20:=Tryd.zeroValue20
 t37:=Tryd.underlying67
 a37:=Tryd.isAgg67
 z37:=Tryd.sizeOf67
 v37:=Tryd.zeroValue67
 t46:=Tryd.underlying80
 a46:=Tryd.isAgg80
 z46:=Tryd.sizeOf80
 v46:=Tryd.zeroValue80
 t51:=Tryd.underlying89
 a51:=Tryd.isAgg89
 z51:=Tryd.sizeOf89
 v51:=Tryd.zeroValue89
 t53:=Tryd.underlying66
 a53:=Tryd.isAgg66
 z53:=Tryd.sizeOf66
 v53:=Tryd.zeroValue66
 t171:=Tryd.underlying73
 a171:=Tryd.isAgg73
 z171:=Tryd.sizeOf73
 v171:=Tryd.zeroValue73
 t173:=Tryd.underlying76
 a173:=Tryd.isAgg76
 z173:=Tryd.sizeOf76
 v173:=Tryd.zeroValue76
 t212:=Tryd.underlying88
 a212:=Tryd.isAgg88
 z212:=Tryd.sizeOf88
 v212:=Tryd.zeroValue88
 t213:=Tryd.underlying90
 a213:=Tryd.isAgg90
 z213:=Tryd.sizeOf90
 t232:=Tryd.underlying105
 a232:=Tryd.isAgg105
 z232:=Tryd.sizeOf105
 v232:=Tryd.zeroValue105
 t233:=Tryd.underlying106
 a233:=Tryd.isAgg106
 z233:=Tryd.sizeOf106
 v233:=Tryd.zeroValue106
 g17:=by kernel_rfl
 g18:=by kernel_rfl
 g19:=by kernel_rfl
 i0:=by kernel_rfl
 i2:=by kernel_rfl
 i3:=by kernel_rfl
 i4:=by kernel_rfl
 i5:=by kernel_rfl
 i9:=by kernel_rfl
 i20:=by kernel_rfl
 i37:=by kernel_rfl
 i46:=by kernel_rfl
 i51:=by kernel_rfl
 i53:=by kernel_rfl
 i171:=by kernel_rfl
 i173:=by kernel_rfl
 i212:=by kernel_rfl
 i232:=by kernel_rfl
 i233:=by kernel_rfl
 m17:=by kernel_rfl
 m18:=by kernel_rfl
 m19:=by kernel_rfl }
open Go.RowKit Go.Sort Go.Lib in
theorem Tryd.strconv_FormatInt_10 (n : Int) (h0 : -9223372036854775808 ≤ n) (h1 : n ≤ 9223372036854775807) (w : World) (htab : Lib.TabIs Tryd.prog w "internal/strconv.uint64pow10" .u64 Lib.pow10Tab) :
  Calls Tryd.prog 30 #[.int .i64 n, .int .i64 10] w fun e w'=>e = .returned (.string ⟨(Lib.itoa n).toArray⟩) ∧ ∃ k os, w' = grow (w.drewN k) os:=Any.strconv_FormatInt_10 Tryd.laysM173 n h0 h1 w htab
def Tryd.laysC174_ren : Go.Shelf.Ren:=⟨fun | 174=>34 | 247=>40 | 245=>41 | 287=>50 | 279=>51 | 280=>52 | 281=>53 | 282=>54 | 321=>62 | 322=>63 | 316=>64 | 171=>31 | 205=>65 | 243=>38 | 246=>37 | 283=>42 | 284=>43 | 285=>44 | 286=>45 | 129=>56 | 317=>55 | 318=>57 | 319=>58 | 320=>59 | 337=>66 | 338=>67 | n=>n, fun | 9=>9 | 3=>3 | 2=>2 | 75=>63 | 85=>64 | 4=>4 | 167=>81 | 5=>5 | 53=>66 | 175=>82 | 46=>80 | 168=>84 | 37=>67 | 0=>0 | 210=>98 | 21=>21 | 127=>101 | 145=>104 | 143=>102 | 171=>73 | 173=>76 | 212=>88 | 51=>89 | 20=>20 | 213=>90 | 232=>105 | 233=>106 | 80=>107 | n=>n, fun | 15=>2 | 16=>3 | 17=>1 | 18=>4 | 19=>5 | n=>n⟩
theorem Tryd.laysC174 : Go.Proofs.LaysC.n174 Tryd.prog Tryd.laysC174_ren:={
 mixed:=by kernel_rfl
 f129:=Tryd.func56.trans (congrArg some (by kernel_rfl))
 f171:=Tryd.func31.trans (congrArg some (by kernel_rfl))
 f174:=Tryd.func34.trans (congrArg some (by kernel_rfl))
 f205:=Tryd.func65.trans (congrArg some (by kernel_rfl))
 f243:=Tryd.func38.trans (congrArg some (by kernel_rfl))
 f245:=Tryd.func41.trans (congrArg some (by kernel_rfl))
 f246:=Tryd.func37.trans (congrArg some (by kernel_rfl))
 f247:=Tryd.func40.trans (congrArg some (by kernel_rfl))
 f279:=Tryd.func51.trans (congrArg some (by kernel_rfl))
 f280:=Tryd.func52.trans (congrArg some (by kernel_rfl))
 f281:=Tryd.func53.trans (congrArg some (by kernel_rfl))
 f282:=Tryd.func54.trans (congrArg some (by kernel_rfl))
 f283:=Tryd.func42.trans (congrArg some (by kernel_rfl))
 f284:=Tryd.func43.trans (congrArg some (by kernel_rfl))
 f285:=Tryd.func44.trans (congrArg some (by kernel_rfl))
 f286:=Tryd.func45.trans (congrArg some (by kernel_rfl))
 f287:=Tryd.func50.trans (congrArg some (by kernel_rfl))
 f316:=Tryd.func64.trans (congrArg some (by kernel_rfl))
 f317:=Tryd.func55.trans (congrArg some (by kernel_rfl))
 f318:=Tryd.func57.trans (congrArg some (by kernel_rfl))
 f319:=Tryd.func58.trans (congrArg some (by kernel_rfl))
 f320:=Tryd.func59.trans (congrArg some (by kernel_rfl))
 f321:=Tryd.func62.trans (congrArg some (by kernel_rfl))
 f322:=Tryd.func63.trans (congrArg some (by kernel_rfl))
 f337:=Tryd.func66.trans (congrArg some (by kernel_rfl))
 f338:=Tryd.func67.trans (congrArg some (by kernel_rfl))
 t0:=Tryd.underlying0
 a0:=Tryd.isAgg0
 z0:=Tryd.sizeOf0
 v0:=Tryd.zeroValue0
 t2:=Tryd.underlying2
 a2:=Tryd.isAgg2
 z2:=Tryd.sizeOf2
 v2:=Tryd.zeroValue2
 t3:=Tryd.underlying3
 a3:=Tryd.isAgg3
 z3:=Tryd.sizeOf3
 v3:=Tryd.zeroValue3
 t4:=Tryd.underlying4
 a4:=Tryd.isAgg4
 z4:=Tryd.sizeOf4
 v4:=Tryd.zeroValue4
 t5:=Tryd.underlying5
 a5:=Tryd.isAgg5
 z5:=Tryd.sizeOf5
 v5:=Tryd.zeroValue5
 t9:=Tryd.underlying9
 a9:=Tryd.isAgg9
 z9:=Tryd.sizeOf9
 v9:=Tryd.zeroValue9
 t20:=Tryd.underlying20
 a20:=Tryd.isAgg20
 z20:=Tryd.sizeOf20
 v20:=Tryd.zeroValue20
 t21:=Tryd.underlying21
 a21:=Tryd.isAgg21
 z21:=Tryd.sizeOf21
 v21:=Tryd.zeroValue21
 t37:=Tryd.underlying67
 a37:=Tryd.isAgg67
 z37:=Tryd.sizeOf67
 v37:=Tryd.zeroValue67
 t46:=Tryd.underlying80
 a46:=Tryd.isAgg80
 z46:=Tryd.sizeOf80
 v46:=Tryd.zeroValue80
 t51:=Tryd.underlying89
 a51:=Tryd.isAgg89
 z51:=Tryd.sizeOf89
 v51:=Tryd.zeroValue89
 t53:=Tryd.underlying66
 a53:=Tryd.isAgg66
 z53:=Tryd.sizeOf66
 v53:=Tryd.zeroValue66
 t75:=Tryd.underlying63
 a75:=Tryd.isAgg63
 z75:=Tryd.sizeOf63
 v75:=Tryd.zeroValue63
 t85:=Tryd.underlying64
 a85:=Tryd.isAgg64
 z85:=Tryd.sizeOf64
 v85:=Tryd.zeroValue64
 t127:=Tryd.underlying101
 a127:=Tryd.isAgg101
 z127:=Tryd.sizeOf101
 v127:=Tryd.zeroValue101
 t143:=Tryd.underlying102
 a143:=Tryd.isAgg102
 z143:=Tryd.sizeOf102
 v143:=Tryd.zeroValue102
 t145:=Tryd.underlying104
 a145:=Tryd.isAgg104
 z145:=Tryd.sizeOf104
 v145:=Tryd.zeroValue104
 t167:=Tryd.underlying81
 a167:=Tryd.isAgg81
 z167:=Tryd.sizeOf81
 v167:=Tryd.zeroValue81
 t168:=Tryd.underlying84
 a168:=Tryd.isAgg84
 z168:=Tryd.sizeOf84
 v168:=Tryd.zeroValue84
 t171:=Tryd.underlying73
 a171:=Tryd.isAgg73
 z171:=Tryd.sizeOf73
 v171:=Tryd.zeroValue73
 t173:=Tryd.underlying76
 a173:=Tryd.isAgg76
 z173:=Tryd.sizeOf76
 v173:=Tryd.zeroValue76
 t175:=Tryd.underlying82
 a175:=Tryd.isAgg82
 z175:=Tryd.sizeOf82
 v175:=Tryd.zeroValue82
 t210:=Tryd.underlying98
 a210:=Tryd.isAgg98
 z210:=Tryd.sizeOf98
 v210:=Tryd.zeroValue98
 t212:=Tryd.underlying88
 a212:=Tryd.isAgg88
 z212:=Tryd.sizeOf88
 v212:=Tryd.zeroValue88
 t213:=Tryd.underlying90
 a213:=Tryd.isAgg90
 z213:=Tryd.sizeOf90
 t232:=Tryd.underlying105
 a232:=Tryd.isAgg105
 z232:=Tryd.sizeOf105
 v232:=Tryd.zeroValue105
 t233:=Tryd.underlying106
 a233:=Tryd.isAgg106
 z233:=Tryd.sizeOf106
 v233:=Tryd.zeroValue106
 g15:=by kernel_rfl
 g16:=by kernel_rfl
 g17:=by kernel_rfl
 g18:=by kernel_rfl
 g19:=by kernel_rfl
 t80:=Tryd.underlying107
 a80:=Tryd.isAgg107
 z80:=Tryd.sizeOf107
 v80:=Tryd.zeroValue107
 i0:=by kernel_rfl
 i2:=by kernel_rfl
 i3:=by kernel_rfl
 i4:=by kernel_rfl
 i5:=by kernel_rfl
 i9:=by kernel_rfl
 i20:=by kernel_rfl
 i21:=by kernel_rfl
 i37:=by kernel_rfl
 i46:=by kernel_rfl
 i51:=by kernel_rfl
 i53:=by kernel_rfl
 i75:=by kernel_rfl
 i80:=by kernel_rfl
 i85:=by kernel_rfl
 i127:=by kernel_rfl
 i143:=by kernel_rfl
 i145:=by kernel_rfl
 i167:=by kernel_rfl
 i168:=by kernel_rfl
 i171:=by kernel_rfl
 i173:=by kernel_rfl
 i175:=by kernel_rfl
 i210:=by kernel_rfl
 i212:=by kernel_rfl
 i232:=by kernel_rfl
 i233:=by kernel_rfl
 m15:=by kernel_rfl
 m16:=by kernel_rfl
 m17:=by kernel_rfl
 m18:=by kernel_rfl
 m19:=by kernel_rfl
 c0:=by kernel_rfl
 c2:=by kernel_rfl
 c3:=by kernel_rfl
 c4:=by kernel_rfl
 c5:=by kernel_rfl
 c9:=by kernel_rfl
 c20:=by kernel_rfl
 c21:=by kernel_rfl
 c37:=by kernel_rfl
 c46:=by kernel_rfl
 c51:=by kernel_rfl
 c53:=by kernel_rfl
 c75:=by kernel_rfl
 c80:=by kernel_rfl
 c85:=by kernel_rfl
 c127:=by kernel_rfl
 c143:=by kernel_rfl
 c145:=by kernel_rfl
 c167:=by kernel_rfl
 c168:=by kernel_rfl
 c171:=by kernel_rfl
 c173:=by kernel_rfl
 c175:=by kernel_rfl
 c210:=by kernel_rfl
 c212:=by kernel_rfl
 c213:=by kernel_rfl
 c232:=by kernel_rfl
 c233:=by kernel_rfl }
open Go.RowKit in
theorem Tryd.strconv_ParseInt_10_at64_ok (s : ByteArray) (hmax : s.size ≤ 9223372036854775806) (v : Int) (h : Lib.parseIntB 64 s.data.toList = .ok v) (w : World) :
  Calls Tryd.prog 34 #[.string s, .int .i64 10, .int .i64 64] w fun e w'=>e = .returned (.tuple #[.int .i64 v, .nilIface]) ∧ (w' = w ∨ ∃ t, w' = Lib.bytesWorld w 5 t):=Any.strconv_ParseInt_10_at64_ok Tryd.laysC174 s hmax v h w
open Go.RowKit in
theorem Tryd.strconv_ParseInt_10_at64_range (s : ByteArray) (hlim : s.size ≤ 281474976710656) (h : Lib.parseIntB 64 s.data.toList = .range) (ev : Value) (w : World) (hv : w.cell? ⟨3, 0, none⟩ = some ev) (hev : ev = .nilIface ∨ ∃ te pe, ev = .iface te pe) :
  Calls Tryd.prog 34 #[.string s, .int .i64 10, .int .i64 64] w fun e w'=>∃ N, e = .returned (.tuple #[.int .i64 (Lib.intSat 64 s.data.toList), .iface 84 (.pointer (some ⟨N, 0, none⟩))]) ∧ w.heap.size ≤ N ∧ w'.heap[N]? = some (.cells #[.string ⟨#[80, 97, 114, 115, 101, 73, 110, 116]⟩, .string s, ev] 98 (0, 0)) ∧ Below w.heap.size w w':=Any.strconv_ParseInt_10_at64_range Tryd.laysC174 s hlim h ev w hv hev
def Tryd.lays219_ren : Go.Shelf.Ren:=⟨fun | 219=>39 | 217=>46 | 225=>47 | 224=>48 | 267=>49 | 266=>60 | 314=>61 | n=>n, fun | 9=>9 | 3=>3 | 4=>4 | 5=>5 | 46=>80 | 146=>92 | 51=>89 | n=>n, fun | 1=>0 | n=>n⟩
theorem Tryd.lays219 : Go.Proofs.Lays.n219 Tryd.prog Tryd.lays219_ren:={
 mixed:=by kernel_rfl
 f217:=Tryd.func46.trans (congrArg some (by kernel_rfl))
 f219:=Tryd.func39.trans (congrArg some (by kernel_rfl))
 f224:=Tryd.func48.trans (congrArg some (by kernel_rfl))
 f225:=Tryd.func47.trans (congrArg some (by kernel_rfl))
 f266:=Tryd.func60.trans (congrArg some (by kernel_rfl))
 f267:=Tryd.func49.trans (congrArg some (by kernel_rfl))
 f314:=Tryd.func61.trans (congrArg some (by kernel_rfl))
 t3:=Tryd.underlying3
 a3:=Tryd.isAgg3
 z3:=Tryd.sizeOf3
 v3:=Tryd.zeroValue3
 t4:=Tryd.underlying4
 a4:=Tryd.isAgg4
 z4:=Tryd.sizeOf4
 v4:=Tryd.zeroValue4
 t5:=Tryd.underlying5
 a5:=Tryd.isAgg5
 z5:=Tryd.sizeOf5
 v5:=Tryd.zeroValue5
 t9:=Tryd.underlying9
 a9:=Tryd.isAgg9
 z9:=Tryd.sizeOf9
 v9:=Tryd.zeroValue9
 t46:=Tryd.underlying80
 a46:=Tryd.isAgg80
 z46:=Tryd.sizeOf80
 v46:=Tryd.zeroValue80
 t51:=Tryd.underlying89
 a51:=Tryd.isAgg89
 z51:=Tryd.sizeOf89
 v51:=Tryd.zeroValue89
 t146:=Tryd.underlying92
 a146:=Tryd.isAgg92
 z146:=Tryd.sizeOf92
 v146:=Tryd.zeroValue92
 g1:=by kernel_rfl }
open Go.RowKit Go.Lib in
theorem Tryd.stringslite_Index_one (s : ByteArray) (c : UInt8) (w : World) :
  Calls Tryd.prog 39 #[.string s, .string ⟨#[c]⟩] w fun e w'=>e = .returned (.int .i64 (Lib.indexByte s.data.toList c)) ∧ w' = w:=Any.stringslite_Index_one Tryd.lays219 s c w
end Go.Proofs
