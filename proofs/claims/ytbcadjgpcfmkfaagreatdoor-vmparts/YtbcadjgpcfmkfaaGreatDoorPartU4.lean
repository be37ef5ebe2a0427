/- Shelf; CTold. -/
import Derived.Shelf.Strconv.Atoi
import Derived.Shelf.Strconv.Itoa0
import Derived.Shelf.Strconv.Itoa1
import Derived.Shelf.LaysM
import Derived.Shelf.Strconv.Itoa2
import Derived.Shelf.Strconv.Itoa3
import Derived.Shelf.Strconv.AtoiErrFast
import Derived.Shelf.Strconv.ParseIntEmpty
import Derived.Shelf.Strconv.AtoiFail
import Derived.Shelf.Strconv.Clone
import Derived.Shelf.Strconv.SyntaxError
import Derived.Shelf.LaysC
import Derived.Shelf.Strconv.ToError
import Derived.Shelf.Strconv.Lower
import Derived.Shelf.Strconv.ParseUint10
import Derived.Shelf.Strconv.ParseUint10Empty
import Derived.Shelf.Strconv.ParseUint10Any
import Derived.Shelf.Strconv.ParseInt10
import Derived.Shelf.Strconv.AtoiLong
import Derived.Shelf.Strconv.AtoiInnerAll
import Derived.Shelf.Strconv.RangeError
import Derived.Shelf.Strconv.ToErrorRange
import Derived.Shelf.Strconv.AtoiAll
import Derived.Test.YtbcadjgpcfmkfaaGreatDoorProg
import Derived.Lib.AppendStr
import Derived.Lib.AppendIntMem
import Derived.Lib.ItoaLen
import Derived.Test.YtbcadjgpcfmkfaaGreatDoorPartU1
import Derived.Test.YtbcadjgpcfmkfaaGreatDoorPartU3
set_option maxHeartbeats 0
set_option maxRecDepth 100000
set_option linter.unusedSimpArgs false
namespace Go.Proofs.YtbcadjgpcfmkfaaGreatDoor
open Go Go.RowKit
end Go.Proofs.YtbcadjgpcfmkfaaGreatDoor
section
namespace Go.Proofs
open Go.Shelf
def Tryz.Vg:Go.Shelf.Ren:=⟨fun|244=>86|247=>92|287=>102|321=>107|322=>108|n=>n,fun|9=>9|3=>3|75=>154|4=>4|5=>5|167=>165|37=>148|0=>0|85=>166|2=>2|53=>160|175=>178|46=>176|21=>21|80=>114|n=>n,fun|n=>n⟩
open Go.RowKit in
def Tryz.Vh:Go.Shelf.Ren:=⟨fun|172=>83|244=>86|245=>87|247=>92|279=>93|280=>94|281=>95|282=>96|287=>102|316=>103|171=>78|205=>104|321=>107|322=>108|243=>82|246=>85|283=>88|284=>89|285=>90|286=>91|129=>98|317=>97|318=>99|319=>100|320=>101|337=>105|338=>106|n=>n,fun|9=>9|3=>3|75=>154|76=>155|4=>4|5=>5|167=>165|37=>148|0=>0|85=>166|2=>2|168=>168|53=>160|175=>178|46=>176|210=>182|127=>186|145=>189|143=>187|21=>21|171=>159|173=>163|212=>173|51=>174|20=>20|213=>175|232=>190|233=>191|80=>114|n=>n,fun|15=>1|16=>2|17=>0|18=>3|19=>4|n=>n⟩
open Go.RowKit in
def Tryz.Vi:Go.Shelf.Ren:=⟨fun|129=>98|n=>n,fun|53=>160|3=>3|4=>4|46=>176|5=>5|9=>9|n=>n,fun|n=>n⟩
def Tryz.Vj:Go.Shelf.Ren:=⟨fun|317=>97|n=>n,fun|3=>3|46=>176|n=>n,fun|n=>n⟩
open Go.Lib in
def Tryz.Vk:Go.Shelf.Ren:=⟨fun|318=>99|n=>n,fun|3=>3|4=>4|n=>n,fun|n=>n⟩
open Go.Lib in
def Tryz.Vl:Go.Shelf.Ren:=⟨fun|283=>88|n=>n,fun|3=>3|9=>9|4=>4|n=>n,fun|n=>n⟩
open Go.Lib in
def Tryz.SX:Go.Shelf.Ren:=⟨fun|284=>89|129=>98|317=>97|318=>99|n=>n,fun|53=>160|3=>3|212=>173|0=>0|4=>4|46=>176|5=>5|9=>9|n=>n,fun|17=>0|n=>n⟩
open Go.Lib in
def Tryz.Vm:Go.Shelf.Ren:=⟨fun|285=>90|n=>n,fun|37=>148|53=>160|3=>3|4=>4|51=>174|9=>9|5=>5|0=>0|n=>n,fun|n=>n⟩
open Go.RowKit Go.Sort Go.Lib in
def Tryz.SY:Go.Shelf.Ren:=⟨fun|246=>85|283=>88|284=>89|285=>90|286=>91|129=>98|317=>97|318=>99|319=>100|320=>101|337=>105|338=>106|n=>n,fun|2=>2|3=>3|9=>9|4=>4|171=>159|0=>0|53=>160|37=>148|5=>5|173=>163|212=>173|51=>174|20=>20|213=>175|46=>176|232=>190|233=>191|n=>n,fun|17=>0|18=>3|19=>4|n=>n⟩
open Go.RowKit Go.Sort Go.Lib in
def Tryz.Vn:Go.Shelf.Ren:=⟨fun|246=>85|283=>88|284=>89|285=>90|286=>91|129=>98|317=>97|318=>99|319=>100|320=>101|337=>105|338=>106|n=>n,fun|2=>2|3=>3|9=>9|4=>4|171=>159|0=>0|53=>160|37=>148|5=>5|173=>163|212=>173|51=>174|20=>20|213=>175|46=>176|232=>190|233=>191|n=>n,fun|17=>0|18=>3|19=>4|n=>n⟩
open Go.RowKit Go.Sort Go.Lib in
def Tryz.Ta:Go.Shelf.Ren:=⟨fun|243=>82|246=>85|283=>88|284=>89|285=>90|286=>91|129=>98|317=>97|318=>99|319=>100|320=>101|337=>105|338=>106|n=>n,fun|3=>3|9=>9|2=>2|4=>4|171=>159|0=>0|53=>160|37=>148|5=>5|173=>163|212=>173|51=>174|20=>20|213=>175|46=>176|232=>190|233=>191|n=>n,fun|17=>0|18=>3|19=>4|n=>n⟩
open Go.RowKit Go.Sort Go.Lib in
def Tryz.Vo:Go.Shelf.Ren:=⟨fun|243=>82|246=>85|283=>88|284=>89|285=>90|286=>91|129=>98|317=>97|318=>99|319=>100|320=>101|337=>105|338=>106|n=>n,fun|3=>3|9=>9|2=>2|4=>4|171=>159|0=>0|53=>160|37=>148|5=>5|173=>163|212=>173|51=>174|20=>20|213=>175|46=>176|232=>190|233=>191|n=>n,fun|17=>0|18=>3|19=>4|n=>n⟩
open Go.RowKit Go.Sort Go.Lib in
def Tryz.CJ:Go.Shelf.Ren:=⟨fun|171=>78|243=>82|246=>85|283=>88|284=>89|285=>90|286=>91|129=>98|317=>97|318=>99|319=>100|320=>101|337=>105|338=>106|n=>n,fun|3=>3|9=>9|2=>2|4=>4|171=>159|0=>0|53=>160|37=>148|5=>5|173=>163|212=>173|51=>174|20=>20|213=>175|46=>176|232=>190|233=>191|n=>n,fun|17=>0|18=>3|19=>4|n=>n⟩
theorem Tryz.N9:Go.Proofs.LaysM.n171 Tryz.prog Tryz.CJ:={
 mixed:=by kernel_rfl
 f129:=Tryz.func98.trans (congrArg some (by kernel_rfl))
 f171:=Tryz.func78.trans (congrArg some (by kernel_rfl))
 f243:=Tryz.func82.trans (congrArg some (by kernel_rfl))
 f246:=Tryz.func85.trans (congrArg some (by kernel_rfl))
 f283:=Tryz.func88.trans (congrArg some (by kernel_rfl))
 f284:=Tryz.func89.trans (congrArg some (by kernel_rfl))
 f285:=Tryz.func90.trans (congrArg some (by kernel_rfl))
 f286:=Tryz.func91.trans (congrArg some (by kernel_rfl))
 f317:=Tryz.func97.trans (congrArg some (by kernel_rfl))
 f318:=Tryz.func99.trans (congrArg some (by kernel_rfl))
 f319:=Tryz.func100.trans (congrArg some (by kernel_rfl))
 f320:=Tryz.func101.trans (congrArg some (by kernel_rfl))
 f337:=Tryz.func105.trans (congrArg some (by kernel_rfl))
 f338:=Tryz.func106.trans (congrArg some (by kernel_rfl))
 t0:=Tryz.underlying0
 a0:=Tryz.isAgg0
 z0:=Tryz.sizeOf0
 v0:=Tryz.zeroValue0
 t2:=Tryz.underlying2
 a2:=Tryz.isAgg2
 z2:=Tryz.sizeOf2
 v2:=Tryz.zeroValue2
 t3:=Tryz.underlying3
 a3:=Tryz.isAgg3
 z3:=Tryz.sizeOf3
 v3:=Tryz.zeroValue3
 t4:=Tryz.underlying4
 a4:=Tryz.isAgg4
 z4:=Tryz.sizeOf4
 v4:=Tryz.zeroValue4
 t5:=Tryz.underlying5
 a5:=Tryz.isAgg5
 z5:=Tryz.sizeOf5
 v5:=Tryz.zeroValue5
 t9:=Tryz.underlying9
 a9:=Tryz.isAgg9
 z9:=Tryz.sizeOf9
 v9:=Tryz.zeroValue9
 t20:=Tryz.underlying20
 a20:=Tryz.isAgg20
 z20:=Tryz.sizeOf20
 v20:=Tryz.zeroValue20
 t37:=Tryz.underlying148
 a37:=Tryz.isAgg148
 z37:=Tryz.sizeOf148
 v37:=Tryz.zeroValue148
 t46:=Tryz.underlying176
 a46:=Tryz.isAgg176
 z46:=Tryz.sizeOf176
 v46:=Tryz.zeroValue176
 t51:=Tryz.underlying174
 a51:=Tryz.isAgg174
 z51:=Tryz.sizeOf174
 v51:=Tryz.zeroValue174
 t53:=Tryz.underlying160
 a53:=Tryz.isAgg160
 z53:=Tryz.sizeOf160
 v53:=Tryz.zeroValue160
 t171:=Tryz.underlying159
 a171:=Tryz.isAgg159
 z171:=Tryz.sizeOf159
 v171:=Tryz.zeroValue159
 t173:=Tryz.underlying163
 a173:=Tryz.isAgg163
 z173:=Tryz.sizeOf163
 v173:=Tryz.zeroValue163
 t212:=Tryz.underlying173
 a212:=Tryz.isAgg173
 z212:=Tryz.sizeOf173
 v212:=Tryz.zeroValue173
 t213:=Tryz.underlying175
 a213:=Tryz.isAgg175
 z213:=Tryz.sizeOf175
 t232:=Tryz.underlying190
 a232:=Tryz.isAgg190
 z232:=Tryz.sizeOf190
 v232:=Tryz.zeroValue190
 t233:=Tryz.underlying191
 a233:=Tryz.isAgg191
 z233:=Tryz.sizeOf191
 v233:=Tryz.zeroValue191
 g17:=by kernel_rfl
 g18:=by kernel_rfl
 g19:=by kernel_rfl
 i0:=by kernel_rfl
 i2:=by kernel_rfl
 i3:=by kernel_rfl
 i4:=by kernel_rfl
 i5:=by kernel_rfl
 i9:=by kernel_rfl
 i20:=by kernel_rfl
 i37:=by kernel_rfl
 i46:=by kernel_rfl
 i51:=by kernel_rfl
 i53:=by kernel_rfl
 i171:=by kernel_rfl
 i173:=by kernel_rfl
 i212:=by kernel_rfl
 i232:=by kernel_rfl
 i233:=by kernel_rfl
 m17:=by kernel_rfl
 m18:=by kernel_rfl
 m19:=by kernel_rfl}
open Go.RowKit Go.Sort Go.Lib in
theorem Tryz.strconv_Itoa (n:Int) (h0:-9223372036854775808≤n) (h1:n≤9223372036854775807) (w:World) (htab:Lib.TabIs Tryz.prog w "internal/strconv.uint64pow10" .u64 Lib.pow10Tab):
 Calls Tryz.prog 78 #[.int .i64 n] w fun e w'=>e=.returned (.string ⟨(Lib.itoa n).toArray⟩)/\∃k os,w'=grow (w.drewN k) os:=Any.strconv_Itoa Tryz.N9 n h0 h1 w htab
def Tryz.Vp:Go.Shelf.Ren:=⟨fun|171=>78|243=>82|246=>85|283=>88|284=>89|285=>90|286=>91|129=>98|317=>97|318=>99|319=>100|320=>101|337=>105|338=>106|n=>n,fun|3=>3|9=>9|2=>2|4=>4|171=>159|0=>0|53=>160|37=>148|5=>5|173=>163|212=>173|51=>174|20=>20|213=>175|46=>176|232=>190|233=>191|n=>n,fun|17=>0|18=>3|19=>4|n=>n⟩
open Go.RowKit Go.Sort Go.Lib in
open Go.RowKit in
def Tryz.Vq:Go.Shelf.Ren:=⟨fun|247=>92|287=>102|321=>107|322=>108|n=>n,fun|9=>9|3=>3|2=>2|75=>154|4=>4|167=>165|5=>5|53=>160|175=>178|46=>176|37=>148|0=>0|21=>21|80=>114|n=>n,fun|n=>n⟩
open Go.RowKit in
open Go.RowKit in
open Go.RowKit in
def Tryz.Tc:Go.Shelf.Ren:=⟨fun|316=>103|n=>n,fun|9=>9|3=>3|4=>4|37=>148|0=>0|127=>186|5=>5|n=>n,fun|n=>n⟩
open Go.RowKit in
def Tryz.Td:Go.Shelf.Ren:=⟨fun|279=>93|316=>103|n=>n,fun|9=>9|168=>168|75=>154|210=>182|3=>3|4=>4|37=>148|0=>0|127=>186|80=>114|5=>5|n=>n,fun|15=>1|n=>n⟩
open Go.RowKit in
def Tryz.Te:Go.Shelf.Ren:=⟨fun|245=>87|279=>93|280=>94|281=>95|282=>96|316=>103|171=>78|205=>104|243=>82|246=>85|283=>88|284=>89|285=>90|286=>91|129=>98|317=>97|318=>99|319=>100|320=>101|337=>105|338=>106|n=>n,fun|9=>9|3=>3|75=>154|167=>165|4=>4|168=>168|210=>182|37=>148|0=>0|127=>186|145=>189|143=>187|2=>2|171=>159|53=>160|5=>5|173=>163|212=>173|51=>174|20=>20|213=>175|46=>176|232=>190|233=>191|80=>114|n=>n,fun|15=>1|16=>2|17=>0|18=>3|19=>4|n=>n⟩
open Go.RowKit in
def Tryz.Vr:Go.Shelf.Ren:=⟨fun|321=>107|n=>n,fun|5=>5|n=>n,fun|n=>n⟩
open Go.RowKit in
def Tryz.Vs:Go.Shelf.Ren:=⟨fun|287=>102|321=>107|322=>108|n=>n,fun|9=>9|3=>3|53=>160|75=>154|4=>4|167=>165|5=>5|46=>176|37=>148|0=>0|21=>21|80=>114|n=>n,fun|n=>n⟩
open Go.RowKit in
open Go.RowKit in
open Go.RowKit in
def Tryz.Tf:Go.Shelf.Ren:=⟨fun|247=>92|287=>102|321=>107|322=>108|n=>n,fun|9=>9|3=>3|2=>2|75=>154|4=>4|167=>165|5=>5|53=>160|175=>178|46=>176|37=>148|0=>0|21=>21|80=>114|n=>n,fun|n=>n⟩
open Go.RowKit in
def Tryz.Tg:Go.Shelf.Ren:=⟨fun|244=>86|247=>92|287=>102|321=>107|322=>108|n=>n,fun|9=>9|3=>3|75=>154|4=>4|5=>5|167=>165|37=>148|0=>0|85=>166|2=>2|53=>160|175=>178|46=>176|21=>21|80=>114|n=>n,fun|n=>n⟩
open Go.RowKit in
open Go.RowKit in
def Tryz.Ti:Go.Shelf.Ren:=⟨fun|280=>94|316=>103|n=>n,fun|9=>9|168=>168|75=>154|210=>182|3=>3|4=>4|37=>148|0=>0|127=>186|80=>114|5=>5|n=>n,fun|16=>2|n=>n⟩
open Go.RowKit in
open Go.RowKit in
def Tryz.CK:Go.Shelf.Ren:=⟨fun|172=>83|244=>86|245=>87|247=>92|279=>93|280=>94|281=>95|282=>96|287=>102|316=>103|171=>78|205=>104|321=>107|322=>108|243=>82|246=>85|283=>88|284=>89|285=>90|286=>91|129=>98|317=>97|318=>99|319=>100|320=>101|337=>105|338=>106|n=>n,fun|9=>9|3=>3|75=>154|76=>155|4=>4|5=>5|167=>165|37=>148|0=>0|85=>166|2=>2|168=>168|53=>160|175=>178|46=>176|210=>182|127=>186|145=>189|143=>187|21=>21|171=>159|173=>163|212=>173|51=>174|20=>20|213=>175|232=>190|233=>191|80=>114|n=>n,fun|15=>1|16=>2|17=>0|18=>3|19=>4|n=>n⟩
theorem Tryz.wY:Go.Proofs.LaysC.n172 Tryz.prog Tryz.CK:={
 mixed:=by kernel_rfl
 f129:=Tryz.func98.trans (congrArg some (by kernel_rfl))
 f171:=Tryz.func78.trans (congrArg some (by kernel_rfl))
 f172:=Tryz.func83.trans (congrArg some (by kernel_rfl))
 f205:=Tryz.func104.trans (congrArg some (by kernel_rfl))
 f243:=Tryz.func82.trans (congrArg some (by kernel_rfl))
 f244:=Tryz.func86.trans (congrArg some (by kernel_rfl))
 f245:=Tryz.func87.trans (congrArg some (by kernel_rfl))
 f246:=Tryz.func85.trans (congrArg some (by kernel_rfl))
 f247:=Tryz.func92.trans (congrArg some (by kernel_rfl))
 f279:=Tryz.func93.trans (congrArg some (by kernel_rfl))
 f280:=Tryz.func94.trans (congrArg some (by kernel_rfl))
 f281:=Tryz.func95.trans (congrArg some (by kernel_rfl))
 f282:=Tryz.func96.trans (congrArg some (by kernel_rfl))
 f283:=Tryz.func88.trans (congrArg some (by kernel_rfl))
 f284:=Tryz.func89.trans (congrArg some (by kernel_rfl))
 f285:=Tryz.func90.trans (congrArg some (by kernel_rfl))
 f286:=Tryz.func91.trans (congrArg some (by kernel_rfl))
 f287:=Tryz.func102.trans (congrArg some (by kernel_rfl))
 f316:=Tryz.func103.trans (congrArg some (by kernel_rfl))
 f317:=Tryz.func97.trans (congrArg some (by kernel_rfl))
 f318:=Tryz.func99.trans (congrArg some (by kernel_rfl))
 f319:=Tryz.func100.trans (congrArg some (by kernel_rfl))
 f320:=Tryz.func101.trans (congrArg some (by kernel_rfl))
 f321:=Tryz.func107.trans (congrArg some (by kernel_rfl))
 f322:=Tryz.func108.trans (congrArg some (by kernel_rfl))
 f337:=Tryz.func105.trans (congrArg some (by kernel_rfl))
 f338:=Tryz.func106.trans (congrArg some (by kernel_rfl))
 t0:=Tryz.underlying0
 a0:=Tryz.isAgg0
 z0:=Tryz.sizeOf0
 v0:=Tryz.zeroValue0
 t2:=Tryz.underlying2
 a2:=Tryz.isAgg2
 z2:=Tryz.sizeOf2
 v2:=Tryz.zeroValue2
 t3:=Tryz.underlying3
 a3:=Tryz.isAgg3
 z3:=Tryz.sizeOf3
 v3:=Tryz.zeroValue3
 t4:=Tryz.underlying4
 a4:=Tryz.isAgg4
 z4:=Tryz.sizeOf4
 v4:=Tryz.zeroValue4
 t5:=Tryz.underlying5
 a5:=Tryz.isAgg5
 z5:=Tryz.sizeOf5
 v5:=Tryz.zeroValue5
 t9:=Tryz.underlying9
 a9:=Tryz.isAgg9
 z9:=Tryz.sizeOf9
 v9:=Tryz.zeroValue9
 t20:=Tryz.underlying20
 a20:=Tryz.isAgg20
 z20:=Tryz.sizeOf20
 v20:=Tryz.zeroValue20
 t21:=Tryz.underlying21
 a21:=Tryz.isAgg21
 z21:=Tryz.sizeOf21
 v21:=Tryz.zeroValue21
 t37:=Tryz.underlying148
 a37:=Tryz.isAgg148
 z37:=Tryz.sizeOf148
 v37:=Tryz.zeroValue148
 t46:=Tryz.underlying176
 a46:=Tryz.isAgg176
 z46:=Tryz.sizeOf176
 v46:=Tryz.zeroValue176
 t51:=Tryz.underlying174
 a51:=Tryz.isAgg174
 z51:=Tryz.sizeOf174
 v51:=Tryz.zeroValue174
 t53:=Tryz.underlying160
 a53:=Tryz.isAgg160
 z53:=Tryz.sizeOf160
 v53:=Tryz.zeroValue160
 t75:=Tryz.underlying154
 a75:=Tryz.isAgg154
 z75:=Tryz.sizeOf154
 v75:=Tryz.zeroValue154
 t76:=Tryz.underlying155
 a76:=Tryz.isAgg155
 z76:=Tryz.sizeOf155
 v76:=Tryz.zeroValue155
 t85:=Tryz.underlying166
 a85:=Tryz.isAgg166
 z85:=Tryz.sizeOf166
 v85:=Tryz.zeroValue166
 t127:=Tryz.underlying186
 a127:=Tryz.isAgg186
 z127:=Tryz.sizeOf186
 v127:=Tryz.zeroValue186
 t143:=Tryz.underlying187
 a143:=Tryz.isAgg187
 z143:=Tryz.sizeOf187
 v143:=Tryz.zeroValue187
 t145:=Tryz.underlying189
 a145:=Tryz.isAgg189
 z145:=Tryz.sizeOf189
 v145:=Tryz.zeroValue189
 t167:=Tryz.underlying165
 a167:=Tryz.isAgg165
 z167:=Tryz.sizeOf165
 v167:=Tryz.zeroValue165
 t168:=Tryz.underlying168
 a168:=Tryz.isAgg168
 z168:=Tryz.sizeOf168
 v168:=Tryz.zeroValue168
 t171:=Tryz.underlying159
 a171:=Tryz.isAgg159
 z171:=Tryz.sizeOf159
 v171:=Tryz.zeroValue159
 t173:=Tryz.underlying163
 a173:=Tryz.isAgg163
 z173:=Tryz.sizeOf163
 v173:=Tryz.zeroValue163
 t175:=Tryz.underlying178
 a175:=Tryz.isAgg178
 z175:=Tryz.sizeOf178
 v175:=Tryz.zeroValue178
 t210:=Tryz.underlying182
 a210:=Tryz.isAgg182
 z210:=Tryz.sizeOf182
 v210:=Tryz.zeroValue182
 t212:=Tryz.underlying173
 a212:=Tryz.isAgg173
 z212:=Tryz.sizeOf173
 v212:=Tryz.zeroValue173
 t213:=Tryz.underlying175
 a213:=Tryz.isAgg175
 z213:=Tryz.sizeOf175
 t232:=Tryz.underlying190
 a232:=Tryz.isAgg190
 z232:=Tryz.sizeOf190
 v232:=Tryz.zeroValue190
 t233:=Tryz.underlying191
 a233:=Tryz.isAgg191
 z233:=Tryz.sizeOf191
 v233:=Tryz.zeroValue191
 g15:=by kernel_rfl
 g16:=by kernel_rfl
 g17:=by kernel_rfl
 g18:=by kernel_rfl
 g19:=by kernel_rfl
 t80:=Tryz.underlying114
 a80:=Tryz.isAgg114
 z80:=Tryz.sizeOf114
 v80:=Tryz.zeroValue114
 i0:=by kernel_rfl
 i2:=by kernel_rfl
 i3:=by kernel_rfl
 i4:=by kernel_rfl
 i5:=by kernel_rfl
 i9:=by kernel_rfl
 i20:=by kernel_rfl
 i21:=by kernel_rfl
 i37:=by kernel_rfl
 i46:=by kernel_rfl
 i51:=by kernel_rfl
 i53:=by kernel_rfl
 i75:=by kernel_rfl
 i76:=by kernel_rfl
 i80:=by kernel_rfl
 i85:=by kernel_rfl
 i127:=by kernel_rfl
 i143:=by kernel_rfl
 i145:=by kernel_rfl
 i167:=by kernel_rfl
 i168:=by kernel_rfl
 i171:=by kernel_rfl
 i173:=by kernel_rfl
 i175:=by kernel_rfl
 i210:=by kernel_rfl
 i212:=by kernel_rfl
 i232:=by kernel_rfl
 i233:=by kernel_rfl
 m15:=by kernel_rfl
 m16:=by kernel_rfl
 m17:=by kernel_rfl
 m18:=by kernel_rfl
 m19:=by kernel_rfl
 c0:=by kernel_rfl
 c2:=by kernel_rfl
 c3:=by kernel_rfl
 c4:=by kernel_rfl
 c5:=by kernel_rfl
 c9:=by kernel_rfl
 c20:=by kernel_rfl
 c21:=by kernel_rfl
 c37:=by kernel_rfl
 c46:=by kernel_rfl
 c51:=by kernel_rfl
 c53:=by kernel_rfl
 c75:=by kernel_rfl
 c76:=by kernel_rfl
 c80:=by kernel_rfl
 c85:=by kernel_rfl
 c127:=by kernel_rfl
 c143:=by kernel_rfl
 c145:=by kernel_rfl
 c167:=by kernel_rfl
 c168:=by kernel_rfl
 c171:=by kernel_rfl
 c173:=by kernel_rfl
 c175:=by kernel_rfl
 c210:=by kernel_rfl
 c212:=by kernel_rfl
 c213:=by kernel_rfl
 c232:=by kernel_rfl
 c233:=by kernel_rfl}
open Go.RowKit in
theorem Tryz.strconv_Atoi_ok (s:ByteArray) (hmax:s.size<=9223372036854775806) (v:Int) (h:Lib.atoiAll s.data.toList=.ok v) (w:World):
 Calls Tryz.prog 83 #[.string s] w fun e w'=>e=.returned (.tuple #[.int .i64 v,.nilIface])/\(w'=w\/∃t,w'=Lib.bytesWorld w 5 t):=Any.strconv_Atoi_ok Tryz.wY s hmax v h w
open Go.RowKit in
theorem Tryz.strconv_Atoi_syntax (s:ByteArray) (hlim:s.size<=281474976710656) (h:Lib.atoiAll s.data.toList=.«syntax») (ev:Value) (w:World) (hv:w.cell? ⟨1,0,none⟩=some ev) (hev:ev=.nilIface\/∃te pe,ev=.iface te pe):
 Calls Tryz.prog 83 #[.string s] w fun e w'=>∃N,e=.returned (.tuple #[.int .i64 (0),.iface 168 (.pointer (some ⟨N,0,none⟩))])/\w.heap.size<=N/\w'.heap[N]?=some (.cells #[.string ⟨#[65,116,111,105]⟩,.string s,ev] 182 (0,0))/\Below w.heap.size w w':=Any.strconv_Atoi_syntax Tryz.wY s hlim h ev w hv hev
open Go.RowKit in
theorem Tryz.strconv_Atoi_range (s:ByteArray) (hlim:s.size<=281474976710656) (h:Lib.atoiAll s.data.toList=.range) (ev:Value) (w:World) (hv:w.cell? ⟨2,0,none⟩=some ev) (hev:ev=.nilIface\/∃te pe,ev=.iface te pe):
 Calls Tryz.prog 83 #[.string s] w fun e w'=>∃N,e=.returned (.tuple #[.int .i64 (Lib.atoiSat s.data.toList),.iface 168 (.pointer (some ⟨N,0,none⟩))])/\w.heap.size<=N/\w'.heap[N]?=some (.cells #[.string ⟨#[65,116,111,105]⟩,.string s,ev] 182 (0,0))/\Below w.heap.size w w':=Any.strconv_Atoi_range Tryz.wY s hlim h ev w hv hev
end Go.Proofs
end
namespace Go.Proofs.YtbcadjgpcfmkfaaGreatDoor
open Go Go.RowKit
section
open Go.pG
namespace Cl
def dn (h:List aV):Nat->Val->List UInt8
 |0,v=>if v.k=0 then Lib.itoa v.n else if v.k=1 then v.t.data.toList else[46,46]
 |d+1,v=>if v.k=0 then Lib.itoa v.n else if v.k=1 then v.t.data.toList else if Ac h.length v then 40::(dn h d (cellAt h v.n.toNat).l++32::(dn h d (cellAt h v.n.toNat).r++ [41])) else[46,46]
def ny (b:UInt8):Value:=.int .u8 b.toNat
section
variable {P : Program} (w : World)
theorem wZ (base:Nat) (t u ty e:TypeId) (i:TypeInfo) (ht:P.underlying t=some (.slice e)) (hu:P.underlying u=some .string) (hi:P.info? e=some i) (hz:i.zero=some (.int .u8 0))
 (hsize:i.size=1) (hby:i.bytes=1) (v:Value) (n:Nat) (xs:List Value) (hown:w.ownsRow base e 1 v n xs) (s:ByteArray)
 (h63:n+s.size<=maxLen) (hbytes:n+s.size<=140737488355328) (hbase:base<=w.heap.size):
 ∃a c w',(Builtin.append_ #[t,u] ty #[v,.string s]).run P w=.ok (.slice a (n+s.size) c) w'/\w'.ownsRow base e 1 (.slice a (n+s.size) c) (n+s.size) (xs++Lib.strCells s)/\w.grownBy w' v.ownBlock/\
  (∀k,(Value.slice a (n+s.size) c).ownBlock=some k->v.ownBlock=some k\/k=w.heap.size):=by
 obtain⟨v',w',hr,h2,h3,h4⟩:=Lib.run_append_own_string (P:=P) w base t u ty e i ht hu hi hz hsize hby v n xs hown s h63 hbytes hbase;have hsm:n+s.size<=9223372036854775807:=by simp only[maxLen] at h63;omega
 have hxl:xs.length=n:=by simpa using hown.1
 obtain⟨a,c,rfl⟩:∃a c,v'=.slice a (n+s.size) c:=by
  rcases h2.2 with⟨rfl,h0⟩|⟨g,cap,_,rfl,_⟩
  ·exact⟨none,0,by rw[h0]⟩
  ·exact⟨_,_,rfl⟩
 refine⟨a,c,w',hr,h2,h3,fun k hk=>?_⟩
 rcases hown.2 with⟨rfl,rfl⟩|⟨g,cap,cur,rfl,hbg,hg,hnc,hcm,hcs,htake⟩
 ·by_cases hm:s.size=0
  ·have h5:=h4.2 ⟨rfl,hm⟩;rw[h5] at hk;simp[Value.ownBlock] at hk
  ·have hr2:=run_append_nil_string (P:=P) w t u ty e i (.int .u8 0) ht hu hi hz s (by omega) (by omega) (by rw[hby];omega);rw[hr] at hr2
   injection hr2 with h6 _
   rw[h6] at hk
   right
   simpa[Value.ownBlock,eq_comm] using hk
 ·by_cases hroom:n+s.size<=cap
  ·have hcs':cur.size=cap:=by simpa using hcs
   have hr2:=Lib.run_append_room_string (P:=P) w t u ty e i ht hu hi hsize g n cap cur hg s hroom (by omega);rw[hr] at hr2
   injection hr2 with h6 _
   rw[h6] at hk
   left
   simpa[Value.ownBlock] using hk
  ·have holds:∀j u,xs[j]?=some u->w.cell? ((⟨g,0,none⟩:Addr).add j)=some u:=hown.cells (g:=g) rfl
   have hr2:=Lib.run_append_grow_string (P:=P) w t u ty e i (.int .u8 0) ht hu hi hz ⟨g,0,none⟩ n cap xs (by rw[hsize];simpa using hxl) holds s (by omega) (by omega) (by rw[hby];exact growslice_fits (by omega) (by omega));rw[hr] at hr2
   injection hr2 with h6 _
   rw[h6] at hk
   right
   simpa[Value.ownBlock,eq_comm] using hk
theorem qj {o:Oper} {a:Act} {K:Act->World->Prop} {Q:Exit->Act->World->Prop} (sl x:Operand) (t u:TypeId)
 (ho:o.op=.call {callee:=.builtin .append,args:=#[sl,x],argTypes:=#[t,u]})
 (base:Nat) (e:TypeId) (i:TypeInfo) (ht:P.underlying t=some (.slice e)) (hu:P.underlying u=some .string) (hi:P.info? e=some i) (hz:i.zero=some (.int .u8 0))
 (hsize:i.size=1) (hby:i.bytes=1)
 (v:Value) (n:Nat) (xs:List Value) (hs:a.eval sl=v) (hown:w.ownsRow base e 1 v n xs) (s:ByteArray) (hx:a.eval x=.string s)
 (h63:n+s.size<=maxLen) (hbytes:n+s.size<=140737488355328) (hbase:base<=w.heap.size)
 (h:∀b c w',w'.ownsRow base e 1 (.slice b (n+s.size) c) (n+s.size) (xs++Lib.strCells s)->w.grownBy w' v.ownBlock->(∀k,(Value.slice b (n+s.size) c).ownBlock=some k->v.ownBlock=some k\/k=w.heap.size)->K (a.put o.dst (.slice b (n+s.size) c)) w'):o.wp P a w K Q:=by
 obtain⟨b,c,w',hr,h2,h3,h4⟩:=wZ (P:=P) w base t u o.type e i ht hu hi hz hsize hby v n xs hown s h63 hbytes hbase;unfold Oper.wp execOp;simp only[ho,resolve,invoke,builtin,Sem.run_bind,Sem.run_pure,Result.andThen_ok,List.map_toArray,List.map_cons,List.map_nil,hs,hx,hr];exact h b c w' h2 h3 h4
theorem kU {ops:Array Oper} {rest:List Oper} {o:Oper} {a:Act} {Q:Exit->Act->World->Prop} (hgd:o.guard=none) (sl x:Operand) (t u:TypeId)
 (ho:o.op=.call {callee:=.builtin .append,args:=#[sl,x],argTypes:=#[t,u]})
 (base:Nat) (e:TypeId) (i:TypeInfo) (ht:P.underlying t=some (.slice e)) (hu:P.underlying u=some .string) (hi:P.info? e=some i) (hz:i.zero=some (.int .u8 0))
 (hsize:i.size=1) (hby:i.bytes=1)
 (v:Value) (n:Nat) (xs:List Value) (hs:a.eval sl=v) (hown:w.ownsRow base e 1 v n xs) (s:ByteArray) (hx:a.eval x=.string s)
 (h63:n+s.size<=maxLen) (hbytes:n+s.size<=140737488355328) (hbase:base<=w.heap.size)
 (h:∀b c w',w'.ownsRow base e 1 (.slice b (n+s.size) c) (n+s.size) (xs++Lib.strCells s)->w.grownBy w' v.ownBlock->(∀k,(Value.slice b (n+s.size) c).ownBlock=some k->v.ownBlock=some k\/k=w.heap.size)->wpList P ops Q rest (a.put o.dst (.slice b (n+s.size) c)) w'):wpList P ops Q (o::rest) a w:=
 wpList_plain hgd fun _ hK=>qj w sl x t u ho base e i ht hu hi hz hsize hby v n xs hs hown s hx h63 hbytes hbase fun b c w' h2 h3 h4=>hK _ _ (h b c w' h2 h3 h4)
theorem vK {ops:Array Oper} {o:Oper} {a:Act} {K:Act->World->Prop} {Q:Exit->Act->World->Prop} {E:Prop} (hgd:o.guard=none) (sl x:Operand) (t u:TypeId)
 (ho:o.op=.call {callee:=.builtin .append,args:=#[sl,x],argTypes:=#[t,u]})
 (base:Nat) (e:TypeId) (i:TypeInfo) (ht:P.underlying t=some (.slice e)) (hu:P.underlying u=some .string) (hi:P.info? e=some i) (hz:i.zero=some (.int .u8 0))
 (hsize:i.size=1) (hby:i.bytes=1)
 (v:Value) (n:Nat) (xs:List Value) (hs:a.eval sl=v) (hown:w.ownsRow base e 1 v n xs) (s:ByteArray) (hx:a.eval x=.string s)
 (h63:n+s.size<=maxLen) (hbytes:n+s.size<=140737488355328) (hbase:base<=w.heap.size)
 (h:∀b c w',w'.ownsRow base e 1 (.slice b (n+s.size) c) (n+s.size) (xs++Lib.strCells s)->w.grownBy w' v.ownBlock->(∀k,(Value.slice b (n+s.size) c).ownBlock=some k->v.ownBlock=some k\/k=w.heap.size)->K (a.put o.dst (.slice b (n+s.size) c)) w'):
 if Region.wanted o (yielded ops a.tmps)=true then Oper.wp P o a w K Q else E:=by
 have hw:Region.wanted o (yielded ops a.tmps)=true:=by simp[Region.wanted,hgd]
 rw[if_pos hw];exact qj w sl x t u ho base e i ht hu hi hz hsize hby v n xs hs hown s hx h63 hbytes hbase h
end
structure SI (w0:World) (hv:Value) (acc:List UInt8) (ov:Value) (w:World):Prop where
 old:Below w0.heap.size w0 w
 big:w0.heap.size+4<=w.heap.size
 lF:w.cell? ⟨w0.heap.size,0,none⟩=some hv
 vL:w.cell? ⟨w0.heap.size+2,0,none⟩=some ov
 Oa:w.frozen? ⟨w0.heap.size+2,0,none⟩=false
 Gt:w.cell? ⟨w0.heap.size+3,0,none⟩=some (.func (.func 77) #[] #[.pointer (some ⟨w0.heap.size+2,0,none⟩),.pointer (some ⟨w0.heap.size,0,none⟩),.pointer (some ⟨w0.heap.size+3,0,none⟩)])
 row:w.ownsRow (w0.heap.size+4) 5 1 ov acc.length (acc.map ny)
def SF (w0:World) (ov YT:Value) (w w':World):Prop:=
 Fr (fun k=>k=w0.heap.size+2\/ov.ownBlock=some k) w w'/\∀k,YT.ownBlock=some k->ov.ownBlock=some k\/w.heap.size<=k
theorem SF.trans {w0:World} {o1 o2 o3:Value} {a b c:World} (h:SF w0 o1 o2 a b) (k:SF w0 o2 o3 b c):SF w0 o1 o3 a c:=by
 refine⟨⟨k.1.os.trans h.1.os,k.1.tape.trans h.1.tape,k.1.output.trans h.1.output,Nat.le_trans h.1.size k.1.size,fun j hj hs=>?_⟩,fun j hj=>?_⟩
 ·rw[k.1.block j (Nat.lt_of_lt_of_le hj h.1.size) ?_]
  ·exact h.1.block j hj hs
  ·rintro(e|e)
   ·exact hs (.inl e)
   ·rcases h.2 j e with e|e
    ·exact hs (.inr e)
    ·omega
 ·rcases k.2 j hj with e|e
  ·exact h.2 j e
  ·exact .inr (Nat.le_trans h.1.size e)
theorem SF.news {w0:World} {ov:Value} {a b:World} (h:Fr nothing a b):SF w0 ov ov a b:=⟨h.mono (fun _ _ x=>x.elim),fun _ h=> .inl h⟩
theorem SI.news {w0:World} {hv:Value} {acc:List UInt8} {ov:Value} {w w':World} (hI:SI w0 hv acc ov w) (hf:Fr nothing w w'):SI w0 hv acc ov w':=by
 have hb:=hI.big;exact{old:=hI.old.trans (hf.below (by omega) (fun _ _=>id)),big:=Nat.le_trans hb hf.size,lF:=(hf.cell (p:=⟨w0.heap.size,0,none⟩) (by show w0.heap.size<_;omega) id).trans hI.lF,vL:=(hf.cell (p:=⟨w0.heap.size+2,0,none⟩) (by show w0.heap.size+2<_;omega) id).trans hI.vL,Oa:=(hf.frozen (p:=⟨w0.heap.size+2,0,none⟩) (by show w0.heap.size+2<_;omega) id).trans hI.Oa,Gt:=(hf.cell (p:=⟨w0.heap.size+3,0,none⟩) (by show w0.heap.size+3<_;omega) id).trans hI.Gt,row:=aI hI.row hf (fun _ _=>id)}
theorem SI.more {w0:World} {hv:Value} {acc bs:List UInt8} {ov:Value} {w w1:World} {a:Option Addr} {n c:Nat} (hI:SI w0 hv acc ov w) (hr:w1.ownsRow (w0.heap.size+4) 5 1 (.slice a n c) n ((acc++bs).map ny)) (hn:n=(acc++bs).length) (hg:w.grownBy w1 ov.ownBlock)
 (hl:∀k,(Value.slice a n c).ownBlock=some k->ov.ownBlock=some k\/k=w.heap.size):
 SI w0 hv (acc++bs) (.slice a n c) (w1.setCell ⟨w0.heap.size+2,0,none⟩ (.slice a n c))/\SF w0 ov (.slice a n c) w (w1.setCell ⟨w0.heap.size+2,0,none⟩ (.slice a n c)):=by
 have hb:=hI.big;have hown:∀k,ov.ownBlock=some k->w0.heap.size+4<=k/\k<w.heap.size:=fun k hk=>hI.row.lt k hk
 have F:Fr (fun k=>k=w0.heap.size+2\/ov.ownBlock=some k) w (w1.setCell ⟨w0.heap.size+2,0,none⟩ (.slice a n c)):=Fr.setCell ((Fr.refl _ w).grown hg (fun k hk=> .inl (.inr hk))) (.inl (.inl rfl)) _;have n2:∀k,k<w0.heap.size+4->k≠w0.heap.size+2->¬(k=w0.heap.size+2\/ov.ownBlock=some k):=by
  rintro k hk hne (e|e)
  ·exact hne e
  ·have:=hown k e;omega
 refine⟨{old:=hI.old.trans (F.below (by omega) (fun k hk=>n2 k (by omega) (by omega))),big:=Nat.le_trans hb F.size,lF:=(F.cell (p:=⟨w0.heap.size,0,none⟩) (by show w0.heap.size<_;omega) (n2 _ (by show w0.heap.size<_;omega) (by show w0.heap.size≠_;omega))).trans hI.lF,vL:=?_,Oa:=?_,Gt:=(F.cell (p:=⟨w0.heap.size+3,0,none⟩) (by show w0.heap.size+3<_;omega) (n2 _ (by show w0.heap.size+3<_;omega) (by show w0.heap.size+3≠_;omega))).trans hI.Gt,row:=?_},F,fun k hk=>?_⟩
 ·refine World.cell?_setCell_same _ _ _ (h:=?_) (u:=ov)
  rw[hg.cell_far ⟨w0.heap.size+2,0,none⟩ (by show w0.heap.size+2<_;omega) (fun e=>by have:=hown _ e.symm;simp at this)];exact hI.vL
 ·rw[World.frozen?_setCell,hg.frozen_far ⟨w0.heap.size+2,0,none⟩ (by show w0.heap.size+2<_;omega) (fun e=>by have:=hown _ e.symm;simp at this)];exact hI.Oa
 ·rw[<-hn];exact ownsRow_setCell_below hr (by show w0.heap.size+2<_;omega) _
 ·rcases hl k hk with e|e
  ·exact .inl e
  ·exact .inr (by omega)
end Cl
end
end Go.Proofs.YtbcadjgpcfmkfaaGreatDoor
