/- Several texts of this seat in one: CWord, Shelf, CNum, TNum, TCut, TCmd, TLaid, TText, TAt, Base. No statement of the seat is proved here. -/
import Derived.Test.YtpkhdihoijkamaaGreatDoorZA06
import Derived.Test.YtpkhdihoijkamaaGreatDoorProg
import Derived.Test.YtpkhdihoijkamaaGreatDoorZA07
import Derived.Test.YtpkhdihoijkamaaGreatDoorRows
import Derived.Shelf.Strings.Builder1
import Derived.Shelf.Strings.Builder2
import Derived.Shelf.Strings.OnBuilder
import Derived.Shelf.Small.Utf8
import Derived.Shelf.Small.Bits
import Derived.Shelf.Small.Strs
import Derived.Shelf.Strconv.Atoi
import Derived.Shelf.Strconv.Itoa0
import Derived.Shelf.Strconv.Itoa1
import Derived.Shelf.LaysM
import Derived.Shelf.Strconv.Itoa2
import Derived.Shelf.Strconv.Itoa3
import Derived.Shelf.Strconv.AtoiErrFast
import Derived.Shelf.Strconv.ParseIntEmpty
import Derived.Shelf.Strconv.AtoiFail
import Derived.Shelf.Strconv.Clone
import Derived.Shelf.Strconv.SyntaxError
import Derived.Shelf.LaysC
import Derived.Shelf.Strconv.ToError
import Derived.Shelf.Strconv.Lower
import Derived.Shelf.Strconv.ParseUint10
import Derived.Shelf.Strconv.ParseUint10Empty
import Derived.Shelf.Strconv.ParseUint10Any
import Derived.Shelf.Strconv.ParseInt10
import Derived.Shelf.Strconv.AtoiLong
import Derived.Shelf.Strconv.AtoiInnerAll
import Derived.Shelf.Strconv.RangeError
import Derived.Shelf.Strconv.ToErrorRange
import Derived.Shelf.Strconv.AtoiAll
import Derived.Shelf.Strconv.ErrVarAll
import Derived.Shelf.Strings.Search1
import Derived.Shelf.Strings.Search2
import Derived.Shelf.Strings.Cut
import Derived.Shelf.Strings.Shaped
import Derived.Shelf.Unicode.Decode
import Derived.Shelf.Strings.Runes
import Derived.Shelf.Strings.AsciiSet
import Derived.Shelf.Unicode.DecodeSlow
import Derived.Shelf.Unicode.DecodeAny
import Derived.Shelf.Unicode.DecodeLast
import Derived.Ground.Names2Prog
import Derived.Shelf.Slices.SearchI
import Derived.Laws.IdiomStrings
import Derived.Deep.DrawnRows
import Derived.Deep.RegionWith
import Derived.Lib.ItoaNum
import Derived.Lib.AtoiAll
import Derived.Lib.IndexMore
import Derived.Lib.Join
import Derived.Deep.RegionHeld3
import Derived.Deep.DeepCutAuto
import Derived.Deep.MidRow
import Derived.Deep.Quiet
import Derived.WalkKit
import Derived.WalkSpells
import Derived.WalkLawsBesides
import Derived.ProofKit
import Derived.OpenShut
import Derived.ChangeOld
import Derived.Deep.SlicePairs
import Derived.Deep.Fields
import Derived.Deep.QuietTactic
import Derived.BigQuiet
namespace Go.Proofs.YtpkhdihoijkamaaGreatDoor.K
open Go.ChangeShapes Go.WideShapes Go.ChangeAt Go.RowKit Go.Maps
theorem staysText_any (b:Bool) (w:World):Calls Tryz.prog 190 #[.bool b] w fun e w'=>e=.returned (.string (if b then ⟨#[115,116,97,121,115]⟩ else ⟨#[103,111,101,115]⟩))∧w'=w:=by
 cases b <;>
 ·go_enter Tryz.func190,Tryz.ntmps190
  go_wp2
  go_ret
  exact ⟨rfl,rfl⟩
end Go.Proofs.YtpkhdihoijkamaaGreatDoor.K
namespace Go.Proofs
open Go.Shelf
def Tryz.lays156_ren:Go.Shelf.Ren:=⟨fun|156=>191|165=>209|166=>210|169=>211|240=>232|241=>233|276=>244|277=>245|n=>n,fun|31=>241|9=>9|3=>3|4=>4|0=>0|20=>20|72=>260|76=>134|70=>258|37=>192|75=>32|127=>278|164=>294|5=>5|80=>251|n=>n,fun|n=>n⟩
theorem Tryz.lays156:Go.Proofs.Lays.n156 Tryz.prog Tryz.lays156_ren:={
 mixed:=by kernel_rfl
 f156:=Tryz.func191.trans (congrArg some (by kernel_rfl))
 f165:=Tryz.func209.trans (congrArg some (by kernel_rfl))
 f166:=Tryz.func210.trans (congrArg some (by kernel_rfl))
 f169:=Tryz.func211.trans (congrArg some (by kernel_rfl))
 f240:=Tryz.func232.trans (congrArg some (by kernel_rfl))
 f241:=Tryz.func233.trans (congrArg some (by kernel_rfl))
 f276:=Tryz.func244.trans (congrArg some (by kernel_rfl))
 f277:=Tryz.func245.trans (congrArg some (by kernel_rfl))
 t0:=Tryz.underlying0
 a0:=Tryz.isAgg0
 z0:=Tryz.sizeOf0
 v0:=Tryz.zeroValue0
 t3:=Tryz.underlying3
 a3:=Tryz.isAgg3
 z3:=Tryz.sizeOf3
 v3:=Tryz.zeroValue3
 t4:=Tryz.underlying4
 a4:=Tryz.isAgg4
 z4:=Tryz.sizeOf4
 v4:=Tryz.zeroValue4
 t9:=Tryz.underlying9
 a9:=Tryz.isAgg9
 z9:=Tryz.sizeOf9
 v9:=Tryz.zeroValue9
 t20:=Tryz.underlying20
 a20:=Tryz.isAgg20
 z20:=Tryz.sizeOf20
 v20:=Tryz.zeroValue20
 t31:=Tryz.underlying241
 a31:=Tryz.isAgg241
 z31:=Tryz.sizeOf241
 v31:=Tryz.zeroValue241
 t37:=Tryz.underlying192
 a37:=Tryz.isAgg192
 z37:=Tryz.sizeOf192
 v37:=Tryz.zeroValue192
 t70:=Tryz.underlying258
 a70:=Tryz.isAgg258
 z70:=Tryz.sizeOf258
 v70:=Tryz.zeroValue258
 t72:=Tryz.underlying260
 a72:=Tryz.isAgg260
 z72:=Tryz.sizeOf260
 v72:=Tryz.zeroValue260
 t75:=Tryz.underlying32
 a75:=Tryz.isAgg32
 z75:=Tryz.sizeOf32
 v75:=Tryz.zeroValue32
 t76:=Tryz.underlying134
 a76:=Tryz.isAgg134
 z76:=Tryz.sizeOf134
 v76:=Tryz.zeroValue134
 t127:=Tryz.underlying278
 a127:=Tryz.isAgg278
 z127:=Tryz.sizeOf278
 v127:=Tryz.zeroValue278
 t164:=Tryz.underlying294
 a164:=Tryz.isAgg294
 z164:=Tryz.sizeOf294
 v164:=Tryz.zeroValue294 }
theorem Tryz.Builder_Extra_156:Builder.Extra Tryz.prog Tryz.lays156_ren:={
 sizeBuilder:=by kernel_rfl
 liesBuilder:=by kernel_rfl
 t5:=Tryz.underlying5
 a5:=Tryz.isAgg5
 z5:=Tryz.sizeOf5
 v5:=Tryz.zeroValue5
 infoByte:=by kernel_rfl
 cellsByte:=by kernel_rfl
 sizeByte:=by kernel_rfl
 neB5:=by decide }
open Go.RowKit in
theorem Tryz.strings_Join (bk o c:Nat) (xs:List ByteArray) (sep:ByteArray) (w:World) (hcells:∀ (j:Nat) x,xs[j]? = some x→w.cell? ⟨bk,o+j,none⟩=some (.string x)) (hbk:bk<w.heap.size) (hN:xs.length≤140737488355328) (hcap:xs.length≤c) (hlen:(Lib.join (xs.map (·.data.toList)) sep.data.toList).length≤140737488355328) :
 Calls Tryz.prog 191 #[.slice (some ⟨bk,o,none⟩) xs.length c,.string sep] w fun e w'=>e=.returned (.string ⟨(Lib.join (xs.map (·.data.toList)) sep.data.toList).toArray⟩)∧Below w.heap.size w w':=Any.strings_Join Tryz.lays156 Tryz.Builder_Extra_156 bk o c xs sep w hcells hbk hN hcap hlen
def Tryz.lays172_ren:Go.Shelf.Ren:=⟨fun|172=>176|244=>200|245=>201|247=>220|279=>221|280=>222|281=>223|282=>224|287=>237|316=>238|171=>159|205=>239|321=>247|322=>248|243=>189|246=>208|283=>228|284=>229|285=>230|286=>231|129=>156|317=>240|318=>241|319=>242|320=>243|337=>249|338=>250|n=>n,fun|9=>9|3=>3|75=>32|76=>134|4=>4|5=>5|167=>267|37=>192|0=>0|85=>268|2=>2|168=>270|53=>60|175=>281|46=>113|210=>285|127=>278|145=>301|143=>299|21=>21|171=>274|173=>276|212=>292|51=>183|20=>20|213=>293|232=>302|233=>147|80=>251|n=>n,fun|15=>1|16=>2|17=>5|18=>6|19=>7|n=>n⟩
def Tryz.laysM246_ren:Go.Shelf.Ren:=⟨fun|246=>208|283=>228|284=>229|285=>230|286=>231|129=>156|317=>240|318=>241|319=>242|320=>243|337=>249|338=>250|n=>n,fun|2=>2|3=>3|9=>9|4=>4|171=>274|0=>0|53=>60|37=>192|5=>5|173=>276|212=>292|51=>183|20=>20|213=>293|46=>113|232=>302|233=>147|n=>n,fun|17=>5|18=>6|19=>7|n=>n⟩
def Tryz.laysM243_ren:Go.Shelf.Ren:=⟨fun|243=>189|246=>208|283=>228|284=>229|285=>230|286=>231|129=>156|317=>240|318=>241|319=>242|320=>243|337=>249|338=>250|n=>n,fun|3=>3|9=>9|2=>2|4=>4|171=>274|0=>0|53=>60|37=>192|5=>5|173=>276|212=>292|51=>183|20=>20|213=>293|46=>113|232=>302|233=>147|n=>n,fun|17=>5|18=>6|19=>7|n=>n⟩
def Tryz.laysM171_ren:Go.Shelf.Ren:=⟨fun|171=>159|243=>189|246=>208|283=>228|284=>229|285=>230|286=>231|129=>156|317=>240|318=>241|319=>242|320=>243|337=>249|338=>250|n=>n,fun|3=>3|9=>9|2=>2|4=>4|171=>274|0=>0|53=>60|37=>192|5=>5|173=>276|212=>292|51=>183|20=>20|213=>293|46=>113|232=>302|233=>147|n=>n,fun|17=>5|18=>6|19=>7|n=>n⟩
theorem Tryz.laysM171:Go.Proofs.LaysM.n171 Tryz.prog Tryz.laysM171_ren:={
 mixed:=by kernel_rfl
 f129:=Tryz.func156.trans (congrArg some (by kernel_rfl))
 f171:=Tryz.func159.trans (congrArg some (by kernel_rfl))
 f243:=Tryz.func189.trans (congrArg some (by kernel_rfl))
 f246:=Tryz.func208.trans (congrArg some (by kernel_rfl))
 f283:=Tryz.func228.trans (congrArg some (by kernel_rfl))
 f284:=Tryz.func229.trans (congrArg some (by kernel_rfl))
 f285:=Tryz.func230.trans (congrArg some (by kernel_rfl))
 f286:=Tryz.func231.trans (congrArg some (by kernel_rfl))
 f317:=Tryz.func240.trans (congrArg some (by kernel_rfl))
 f318:=Tryz.func241.trans (congrArg some (by kernel_rfl))
 f319:=Tryz.func242.trans (congrArg some (by kernel_rfl))
 f320:=Tryz.func243.trans (congrArg some (by kernel_rfl))
 f337:=Tryz.func249.trans (congrArg some (by kernel_rfl))
 f338:=Tryz.func250.trans (congrArg some (by kernel_rfl))
 t0:=Tryz.underlying0
 a0:=Tryz.isAgg0
 z0:=Tryz.sizeOf0
 v0:=Tryz.zeroValue0
 t2:=Tryz.underlying2
 a2:=Tryz.isAgg2
 z2:=Tryz.sizeOf2
 v2:=Tryz.zeroValue2
 t3:=Tryz.underlying3
 a3:=Tryz.isAgg3
 z3:=Tryz.sizeOf3
 v3:=Tryz.zeroValue3
 t4:=Tryz.underlying4
 a4:=Tryz.isAgg4
 z4:=Tryz.sizeOf4
 v4:=Tryz.zeroValue4
 t5:=Tryz.underlying5
 a5:=Tryz.isAgg5
 z5:=Tryz.sizeOf5
 v5:=Tryz.zeroValue5
 t9:=Tryz.underlying9
 a9:=Tryz.isAgg9
 z9:=Tryz.sizeOf9
 v9:=Tryz.zeroValue9
 t20:=Tryz.underlying20
 a20:=Tryz.isAgg20
 z20:=Tryz.sizeOf20
 v20:=Tryz.zeroValue20
 t37:=Tryz.underlying192
 a37:=Tryz.isAgg192
 z37:=Tryz.sizeOf192
 v37:=Tryz.zeroValue192
 t46:=Tryz.underlying113
 a46:=Tryz.isAgg113
 z46:=Tryz.sizeOf113
 v46:=Tryz.zeroValue113
 t51:=Tryz.underlying183
 a51:=Tryz.isAgg183
 z51:=Tryz.sizeOf183
 v51:=Tryz.zeroValue183
 t53:=Tryz.underlying60
 a53:=Tryz.isAgg60
 z53:=Tryz.sizeOf60
 v53:=Tryz.zeroValue60
 t171:=Tryz.underlying274
 a171:=Tryz.isAgg274
 z171:=Tryz.sizeOf274
 v171:=Tryz.zeroValue274
 t173:=Tryz.underlying276
 a173:=Tryz.isAgg276
 z173:=Tryz.sizeOf276
 v173:=Tryz.zeroValue276
 t212:=Tryz.underlying292
 a212:=Tryz.isAgg292
 z212:=Tryz.sizeOf292
 v212:=Tryz.zeroValue292
 t213:=Tryz.underlying293
 a213:=Tryz.isAgg293
 z213:=Tryz.sizeOf293
 t232:=Tryz.underlying302
 a232:=Tryz.isAgg302
 z232:=Tryz.sizeOf302
 v232:=Tryz.zeroValue302
 t233:=Tryz.underlying147
 a233:=Tryz.isAgg147
 z233:=Tryz.sizeOf147
 v233:=Tryz.zeroValue147
 g17:=by kernel_rfl
 g18:=by kernel_rfl
 g19:=by kernel_rfl
 i0:=by kernel_rfl
 i2:=by kernel_rfl
 i3:=by kernel_rfl
 i4:=by kernel_rfl
 i5:=by kernel_rfl
 i9:=by kernel_rfl
 i20:=by kernel_rfl
 i37:=by kernel_rfl
 i46:=by kernel_rfl
 i51:=by kernel_rfl
 i53:=by kernel_rfl
 i171:=by kernel_rfl
 i173:=by kernel_rfl
 i212:=by kernel_rfl
 i232:=by kernel_rfl
 i233:=by kernel_rfl
 m17:=by kernel_rfl
 m18:=by kernel_rfl
 m19:=by kernel_rfl }
open Go.RowKit Go.Sort Go.Lib in
theorem Tryz.strconv_Itoa (n:Int) (h0:-9223372036854775808≤n) (h1:n≤9223372036854775807) (w:World) (htab:Lib.TabIs Tryz.prog w "internal/strconv.uint64pow10" .u64 Lib.pow10Tab) :
 Calls Tryz.prog 159 #[.int .i64 n] w fun e w'=>e=.returned (.string ⟨(Lib.itoa n).toArray⟩)∧∃ k os,w'=grow (w.drewN k) os:=Any.strconv_Itoa Tryz.laysM171 n h0 h1 w htab
def Tryz.laysC172_ren:Go.Shelf.Ren:=⟨fun|172=>176|244=>200|245=>201|247=>220|279=>221|280=>222|281=>223|282=>224|287=>237|316=>238|171=>159|205=>239|321=>247|322=>248|243=>189|246=>208|283=>228|284=>229|285=>230|286=>231|129=>156|317=>240|318=>241|319=>242|320=>243|337=>249|338=>250|n=>n,fun|9=>9|3=>3|75=>32|76=>134|4=>4|5=>5|167=>267|37=>192|0=>0|85=>268|2=>2|168=>270|53=>60|175=>281|46=>113|210=>285|127=>278|145=>301|143=>299|21=>21|171=>274|173=>276|212=>292|51=>183|20=>20|213=>293|232=>302|233=>147|80=>251|n=>n,fun|15=>1|16=>2|17=>5|18=>6|19=>7|n=>n⟩
theorem Tryz.laysC172:Go.Proofs.LaysC.n172 Tryz.prog Tryz.laysC172_ren:={
 mixed:=by kernel_rfl
 f129:=Tryz.func156.trans (congrArg some (by kernel_rfl))
 f171:=Tryz.func159.trans (congrArg some (by kernel_rfl))
 f172:=Tryz.func176.trans (congrArg some (by kernel_rfl))
 f205:=Tryz.func239.trans (congrArg some (by kernel_rfl))
 f243:=Tryz.func189.trans (congrArg some (by kernel_rfl))
 f244:=Tryz.func200.trans (congrArg some (by kernel_rfl))
 f245:=Tryz.func201.trans (congrArg some (by kernel_rfl))
 f246:=Tryz.func208.trans (congrArg some (by kernel_rfl))
 f247:=Tryz.func220.trans (congrArg some (by kernel_rfl))
 f279:=Tryz.func221.trans (congrArg some (by kernel_rfl))
 f280:=Tryz.func222.trans (congrArg some (by kernel_rfl))
 f281:=Tryz.func223.trans (congrArg some (by kernel_rfl))
 f282:=Tryz.func224.trans (congrArg some (by kernel_rfl))
 f283:=Tryz.func228.trans (congrArg some (by kernel_rfl))
 f284:=Tryz.func229.trans (congrArg some (by kernel_rfl))
 f285:=Tryz.func230.trans (congrArg some (by kernel_rfl))
 f286:=Tryz.func231.trans (congrArg some (by kernel_rfl))
 f287:=Tryz.func237.trans (congrArg some (by kernel_rfl))
 f316:=Tryz.func238.trans (congrArg some (by kernel_rfl))
 f317:=Tryz.func240.trans (congrArg some (by kernel_rfl))
 f318:=Tryz.func241.trans (congrArg some (by kernel_rfl))
 f319:=Tryz.func242.trans (congrArg some (by kernel_rfl))
 f320:=Tryz.func243.trans (congrArg some (by kernel_rfl))
 f321:=Tryz.func247.trans (congrArg some (by kernel_rfl))
 f322:=Tryz.func248.trans (congrArg some (by kernel_rfl))
 f337:=Tryz.func249.trans (congrArg some (by kernel_rfl))
 f338:=Tryz.func250.trans (congrArg some (by kernel_rfl))
 t0:=Tryz.underlying0
 a0:=Tryz.isAgg0
 z0:=Tryz.sizeOf0
 v0:=Tryz.zeroValue0
 t2:=Tryz.underlying2
 a2:=Tryz.isAgg2
 z2:=Tryz.sizeOf2
 v2:=Tryz.zeroValue2
 t3:=Tryz.underlying3
 a3:=Tryz.isAgg3
 z3:=Tryz.sizeOf3
 v3:=Tryz.zeroValue3
 t4:=Tryz.underlying4
 a4:=Tryz.isAgg4
 z4:=Tryz.sizeOf4
 v4:=Tryz.zeroValue4
 t5:=Tryz.underlying5
 a5:=Tryz.isAgg5
 z5:=Tryz.sizeOf5
 v5:=Tryz.zeroValue5
 t9:=Tryz.underlying9
 a9:=Tryz.isAgg9
 z9:=Tryz.sizeOf9
 v9:=Tryz.zeroValue9
 t20:=Tryz.underlying20
 a20:=Tryz.isAgg20
 z20:=Tryz.sizeOf20
 v20:=Tryz.zeroValue20
 t21:=Tryz.underlying21
 a21:=Tryz.isAgg21
 z21:=Tryz.sizeOf21
 v21:=Tryz.zeroValue21
 t37:=Tryz.underlying192
 a37:=Tryz.isAgg192
 z37:=Tryz.sizeOf192
 v37:=Tryz.zeroValue192
 t46:=Tryz.underlying113
 a46:=Tryz.isAgg113
 z46:=Tryz.sizeOf113
 v46:=Tryz.zeroValue113
 t51:=Tryz.underlying183
 a51:=Tryz.isAgg183
 z51:=Tryz.sizeOf183
 v51:=Tryz.zeroValue183
 t53:=Tryz.underlying60
 a53:=Tryz.isAgg60
 z53:=Tryz.sizeOf60
 v53:=Tryz.zeroValue60
 t75:=Tryz.underlying32
 a75:=Tryz.isAgg32
 z75:=Tryz.sizeOf32
 v75:=Tryz.zeroValue32
 t76:=Tryz.underlying134
 a76:=Tryz.isAgg134
 z76:=Tryz.sizeOf134
 v76:=Tryz.zeroValue134
 t85:=Tryz.underlying268
 a85:=Tryz.isAgg268
 z85:=Tryz.sizeOf268
 v85:=Tryz.zeroValue268
 t127:=Tryz.underlying278
 a127:=Tryz.isAgg278
 z127:=Tryz.sizeOf278
 v127:=Tryz.zeroValue278
 t143:=Tryz.underlying299
 a143:=Tryz.isAgg299
 z143:=Tryz.sizeOf299
 v143:=Tryz.zeroValue299
 t145:=Tryz.underlying301
 a145:=Tryz.isAgg301
 z145:=Tryz.sizeOf301
 v145:=Tryz.zeroValue301
 t167:=Tryz.underlying267
 a167:=Tryz.isAgg267
 z167:=Tryz.sizeOf267
 v167:=Tryz.zeroValue267
 t168:=Tryz.underlying270
 a168:=Tryz.isAgg270
 z168:=Tryz.sizeOf270
 v168:=Tryz.zeroValue270
 t171:=Tryz.underlying274
 a171:=Tryz.isAgg274
 z171:=Tryz.sizeOf274
 v171:=Tryz.zeroValue274
 t173:=Tryz.underlying276
 a173:=Tryz.isAgg276
 z173:=Tryz.sizeOf276
 v173:=Tryz.zeroValue276
 t175:=Tryz.underlying281
 a175:=Tryz.isAgg281
 z175:=Tryz.sizeOf281
 v175:=Tryz.zeroValue281
 t210:=Tryz.underlying285
 a210:=Tryz.isAgg285
 z210:=Tryz.sizeOf285
 v210:=Tryz.zeroValue285
 t212:=Tryz.underlying292
 a212:=Tryz.isAgg292
 z212:=Tryz.sizeOf292
 v212:=Tryz.zeroValue292
 t213:=Tryz.underlying293
 a213:=Tryz.isAgg293
 z213:=Tryz.sizeOf293
 t232:=Tryz.underlying302
 a232:=Tryz.isAgg302
 z232:=Tryz.sizeOf302
 v232:=Tryz.zeroValue302
 t233:=Tryz.underlying147
 a233:=Tryz.isAgg147
 z233:=Tryz.sizeOf147
 v233:=Tryz.zeroValue147
 g15:=by kernel_rfl
 g16:=by kernel_rfl
 g17:=by kernel_rfl
 g18:=by kernel_rfl
 g19:=by kernel_rfl
 t80:=Tryz.underlying251
 a80:=Tryz.isAgg251
 z80:=Tryz.sizeOf251
 v80:=Tryz.zeroValue251
 i0:=by kernel_rfl
 i2:=by kernel_rfl
 i3:=by kernel_rfl
 i4:=by kernel_rfl
 i5:=by kernel_rfl
 i9:=by kernel_rfl
 i20:=by kernel_rfl
 i21:=by kernel_rfl
 i37:=by kernel_rfl
 i46:=by kernel_rfl
 i51:=by kernel_rfl
 i53:=by kernel_rfl
 i75:=by kernel_rfl
 i76:=by kernel_rfl
 i80:=by kernel_rfl
 i85:=by kernel_rfl
 i127:=by kernel_rfl
 i143:=by kernel_rfl
 i145:=by kernel_rfl
 i167:=by kernel_rfl
 i168:=by kernel_rfl
 i171:=by kernel_rfl
 i173:=by kernel_rfl
 i175:=by kernel_rfl
 i210:=by kernel_rfl
 i212:=by kernel_rfl
 i232:=by kernel_rfl
 i233:=by kernel_rfl
 m15:=by kernel_rfl
 m16:=by kernel_rfl
 m17:=by kernel_rfl
 m18:=by kernel_rfl
 m19:=by kernel_rfl
 c0:=by kernel_rfl
 c2:=by kernel_rfl
 c3:=by kernel_rfl
 c4:=by kernel_rfl
 c5:=by kernel_rfl
 c9:=by kernel_rfl
 c20:=by kernel_rfl
 c21:=by kernel_rfl
 c37:=by kernel_rfl
 c46:=by kernel_rfl
 c51:=by kernel_rfl
 c53:=by kernel_rfl
 c75:=by kernel_rfl
 c76:=by kernel_rfl
 c80:=by kernel_rfl
 c85:=by kernel_rfl
 c127:=by kernel_rfl
 c143:=by kernel_rfl
 c145:=by kernel_rfl
 c167:=by kernel_rfl
 c168:=by kernel_rfl
 c171:=by kernel_rfl
 c173:=by kernel_rfl
 c175:=by kernel_rfl
 c210:=by kernel_rfl
 c212:=by kernel_rfl
 c213:=by kernel_rfl
 c232:=by kernel_rfl
 c233:=by kernel_rfl }
open Go.RowKit in
theorem Tryz.strconv_Atoi_ok (s:ByteArray) (hmax:s.size≤9223372036854775806) (v:Int) (h:Lib.atoiAll s.data.toList=.ok v) (w:World) :
 Calls Tryz.prog 176 #[.string s] w fun e w'=>e=.returned (.tuple #[.int .i64 v,.nilIface])∧(w'=w∨∃ t,w'=Lib.bytesWorld w 5 t):=Any.strconv_Atoi_ok Tryz.laysC172 s hmax v h w
open Go.RowKit in
theorem Tryz.strconv_Atoi_syntax_var (s:ByteArray) (hlim:s.size≤281474976710656) (h:Lib.atoiAll s.data.toList=.«syntax») (tp:TypeId) (p:Value) (w:World) (hvar:w.var? Tryz.prog "strconv.ErrSyntax"=some #[.iface tp p]) :
 Calls Tryz.prog 176 #[.string s] w fun e w'=>∃ N,e=.returned (.tuple #[.int .i64 0,.iface 270 (.pointer (some ⟨N,0,none⟩))])∧w.heap.size≤N∧w'.heap[N]? = some (.cells #[.string ⟨#[65,116,111,105]⟩,.string s,.iface tp p] 285 (0,0))∧Below w.heap.size w w':=Any.strconv_Atoi_syntax_var Tryz.laysC172 s hlim h tp p w hvar
open Go.RowKit in
theorem Tryz.strconv_Atoi_range_var (s:ByteArray) (hlim:s.size≤281474976710656) (h:Lib.atoiAll s.data.toList=.range) (tp:TypeId) (p:Value) (w:World) (hvar:w.var? Tryz.prog "strconv.ErrRange"=some #[.iface tp p]) :
 Calls Tryz.prog 176 #[.string s] w fun e w'=>∃ N,e=.returned (.tuple #[.int .i64 (Lib.atoiSat s.data.toList),.iface 270 (.pointer (some ⟨N,0,none⟩))])∧w.heap.size≤N∧w'.heap[N]? = some (.cells #[.string ⟨#[65,116,111,105]⟩,.string s,.iface tp p] 285 (0,0))∧Below w.heap.size w w':=Any.strconv_Atoi_range_var Tryz.laysC172 s hlim h tp p w hvar
def Tryz.lays219_ren:Go.Shelf.Ren:=⟨fun|219=>198|217=>216|225=>217|224=>218|267=>219|266=>235|314=>236|n=>n,fun|9=>9|3=>3|4=>4|5=>5|46=>113|146=>279|51=>183|n=>n,fun|1=>0|n=>n⟩
def Tryz.lays145_ren:Go.Shelf.Ren:=⟨fun|145=>137|220=>174|219=>198|217=>216|225=>217|224=>218|267=>219|266=>235|314=>236|n=>n,fun|9=>9|4=>4|59=>193|3=>3|5=>5|46=>113|146=>279|51=>183|n=>n,fun|1=>0|n=>n⟩
theorem Tryz.lays145:Go.Proofs.Lays.n145 Tryz.prog Tryz.lays145_ren:={
 mixed:=by kernel_rfl
 f145:=Tryz.func137.trans (congrArg some (by kernel_rfl))
 f217:=Tryz.func216.trans (congrArg some (by kernel_rfl))
 f219:=Tryz.func198.trans (congrArg some (by kernel_rfl))
 f220:=Tryz.func174.trans (congrArg some (by kernel_rfl))
 f224:=Tryz.func218.trans (congrArg some (by kernel_rfl))
 f225:=Tryz.func217.trans (congrArg some (by kernel_rfl))
 f266:=Tryz.func235.trans (congrArg some (by kernel_rfl))
 f267:=Tryz.func219.trans (congrArg some (by kernel_rfl))
 f314:=Tryz.func236.trans (congrArg some (by kernel_rfl))
 t3:=Tryz.underlying3
 a3:=Tryz.isAgg3
 z3:=Tryz.sizeOf3
 v3:=Tryz.zeroValue3
 t4:=Tryz.underlying4
 a4:=Tryz.isAgg4
 z4:=Tryz.sizeOf4
 v4:=Tryz.zeroValue4
 t5:=Tryz.underlying5
 a5:=Tryz.isAgg5
 z5:=Tryz.sizeOf5
 v5:=Tryz.zeroValue5
 t9:=Tryz.underlying9
 a9:=Tryz.isAgg9
 z9:=Tryz.sizeOf9
 v9:=Tryz.zeroValue9
 t46:=Tryz.underlying113
 a46:=Tryz.isAgg113
 z46:=Tryz.sizeOf113
 v46:=Tryz.zeroValue113
 t51:=Tryz.underlying183
 a51:=Tryz.isAgg183
 z51:=Tryz.sizeOf183
 v51:=Tryz.zeroValue183
 t59:=Tryz.underlying193
 a59:=Tryz.isAgg193
 z59:=Tryz.sizeOf193
 v59:=Tryz.zeroValue193
 t146:=Tryz.underlying279
 a146:=Tryz.isAgg279
 z146:=Tryz.sizeOf279
 v146:=Tryz.zeroValue279
 g1:=by kernel_rfl }
open Go.RowKit Go.Lib in
theorem Tryz.strings_Cut (s sep:ByteArray) (m:Int) (w:World) (hs:s.size<4294967281) (hm:w.cell? ⟨0,0,none⟩=some (.int .i64 m)) :
 Calls Tryz.prog 137 #[.string s,.string sep] w fun e w'=>e=.returned (.tuple #[.string ⟨(Lib.cut s.data.toList sep.data.toList).1.toArray⟩,.string ⟨(Lib.cut s.data.toList sep.data.toList).2.1.toArray⟩,.bool (Lib.cut s.data.toList sep.data.toList).2.2])∧∃ n,w'=w.drewN n:=Any.strings_Cut Tryz.lays145 s sep m w hs hm
end Go.Proofs
namespace Go.Proofs.YtpkhdihoijkamaaGreatDoor.K
open Go.ChangeShapes Go.WideShapes Go.ChangeAt Go.RowKit Go.Maps
def numOf (s:ByteArray):Int:=match Lib.atoiAll s.data.toList with
 | .ok v=>v
 | _=>-1
set_option maxHeartbeats 4000000 in
set_option maxRecDepth 100000 in
theorem aa2 (s:ByteArray) (hs:s.size≤281474976710656) (w:World) (t1 t2:TypeId) (p1 p2:Value) (hS:w.var? Tryz.prog "strconv.ErrSyntax"=some #[.iface t1 p1]) (hR:w.var? Tryz.prog "strconv.ErrRange"=some #[.iface t2 p2]) :
 Calls Tryz.prog 139 #[.string s] w fun e w'=>e=.returned (.int .i64 (numOf s))∧Below w.heap.size w w':=by
 cases h:Lib.atoiAll s.data.toList with
 | ok v =>
   have HN:Hid (numOf s=v):=by show _=_;unfold numOf;rw [h]
   have c:=Tryz.strconv_Atoi_ok s (by omega) v h w
   clear h
   go_enter Tryz.func139,Tryz.ntmps139
   go_wp2_with (go_at_call 176;refine c.mono ?_;rintro e w1 ⟨rfl,hb1⟩)
   go_ret
   exact ⟨by rw [HN.out];rfl,by rcases hb1 with rfl|⟨t,rfl⟩;exact Below.refl _ _;exact Lib.bytesWorld_below _ _ _⟩
 | «syntax» =>
   have HN:Hid (numOf s=-1):=by show _=_;unfold numOf;rw [h]
   have c:=Tryz.strconv_Atoi_syntax_var s hs h t1 p1 w hS
   clear h
   go_enter Tryz.func139,Tryz.ntmps139
   go_wp2_with (go_at_call 176;refine c.mono ?_;rintro e w1 ⟨N,rfl,_,_,hb1⟩)
   go_ret
   exact ⟨by rw [HN.out];rfl,hb1⟩
 | range =>
   have HN:Hid (numOf s=-1):=by show _=_;unfold numOf;rw [h]
   have c:=Tryz.strconv_Atoi_range_var s hs h t2 p2 w hR
   clear h
   go_enter Tryz.func139,Tryz.ntmps139
   go_wp2_with (go_at_call 176;refine c.mono ?_;rintro e w1 ⟨N,rfl,_,_,hb1⟩)
   go_ret
   exact ⟨by rw [HN.out];rfl,hb1⟩
end Go.Proofs.YtpkhdihoijkamaaGreatDoor.K
namespace Go.Proofs.YtpkhdihoijkamaaGreatDoor
def digs:List UInt8→Int→Option Int
 | [],n=>some n
 | b :: l,n=>if b.toNat<48∨57<b.toNat then none else digs l (10*n+(b.toNat - 48:Int))
theorem ace {d:Nat} (h:d<10):(UInt8.ofNat (48+d)).toNat=48+d:=by simp;omega
theorem digs_append:∀ (l:List UInt8) (c:UInt8) (m:Int),digs (l ++ [c]) m=(digs l m).bind fun n=>if c.toNat<48∨57<c.toNat then none else some (10*n+(c.toNat - 48:Int))
 | [],c,m=>by simp [digs]
 | b :: l,c,m=>by
   simp only [List.cons_append,digs]
   split
   ·rfl
   ·exact digs_append l c _
theorem yt (n:Nat):Lib.decDigits n=if n<10 then [UInt8.ofNat (48+n)] else Lib.decDigits (n / 10) ++ [UInt8.ofNat (48+n % 10)]:=by
 rw [Lib.decDigits];split <;> rfl
theorem digs_dec (n:Nat):digs (Lib.decDigits n) 0=some (n:Int):=by
 induction n using Nat.strongRecOn with
 | ind n ih =>
   rw [yt]
   split
   ·rename_i h
    have:=ace h
    simp only [digs]
    rw [this,if_neg (by omega)]
    congr 1;omega
   ·rename_i h
    have hd:=ace (show n % 10<10 by omega)
    rw [digs_append,ih (n / 10) (by omega)]
    simp only [Option.bind_some]
    rw [hd,if_neg (by omega)]
    congr 1;omega
theorem dec_ne (n:Nat):Lib.decDigits n≠[]:=by
 rw [yt];split <;> simp
theorem head_app {l m:List UInt8} (h:l≠[]):(l ++ m).head? = l.head? := by
 cases l with
 | nil=>exact absurd rfl h
 | cons a l=>rfl
theorem dec_head (n:Nat) (h:(Lib.decDigits n).head? = some 48):n=0:=by
 induction n using Nat.strongRecOn with
 | ind n ih =>
   rw [yt] at h
   split at h
   ·rename_i hn
    simp only [List.head?_cons,Option.some.injEq] at h
    have h1:=congrArg UInt8.toNat h
    rw [ace hn] at h1
    simp at h1
    exact h1
   ·rename_i hn
    have hne:=dec_ne (n / 10)
    rw [head_app hne] at h
    have:=ih (n / 10) (by omega) h
    omega
theorem dec_dig (n:Nat):∀ c ∈ Lib.decDigits n,48≤c.toNat∧c.toNat≤57:=by
 induction n using Nat.strongRecOn with
 | ind n ih =>
   rw [yt]
   split
   ·rename_i h
    intro c hc
    simp only [List.mem_singleton] at hc
    rw [hc,ace h];omega
   ·intro c hc
    rcases List.mem_append.1 hc with hc|hc
    ·exact ih (n / 10) (by omega) c hc
    ·simp only [List.mem_singleton] at hc
     rw [hc,ace (show n % 10<10 by omega)];omega
theorem digs_nonneg:∀ (l:List UInt8) (m n:Int),0≤m→digs l m=some n→m≤n
 | [],m,n,_,h=>by simp [digs] at h;omega
 | b :: l,m,n,hm,h=>by
   simp only [digs] at h
   split at h
   ·cases h
   ·have:=digs_nonneg l _ n (by omega) h
    omega
theorem dec_len10 (n:Nat) (h:n≤1000000000):(Lib.decDigits n).length≤10:=by
 have:∀ k n:Nat,n<10 ^ (k+1)→(Lib.decDigits n).length≤k+1:=by
  intro k
  induction k with
  | zero=>intro n hn;rw [yt,if_pos (by simpa using hn)];simp
  | succ k ih =>
    intro n hn
    rw [yt]
    split
    ·simp
    ·have:=ih (n / 10) (by rw [Nat.pow_succ] at hn;omega)
     simp;omega
 exact this 9 n (by omega)
theorem parse_digs:∀ (l:List UInt8) (acc n:Nat),digs l acc=some (n:Int)→n≤1000000000→Lib.parseUint10 acc l=.ok n
 | [],acc,n,h,_=>by
   simp only [digs,Option.some.injEq] at h
   have:acc=n:=by omega
   subst this
   rfl
 | c :: l,acc,n,h,hn=>by
   simp only [digs] at h
   split at h
   ·cases h
   ·rename_i hb
    have e:(10*(acc:Int)+(c.toNat - 48:Int))=((acc*10+(c.toNat - 48):Nat):Int):=by omega
    rw [e] at h
    have hle:=digs_nonneg l _ _ (by omega) h
    unfold Lib.parseUint10
    rw [if_pos (by omega),if_neg (by omega),if_neg (by omega)]
    exact parse_digs l _ n h hn
theorem atoi_dec (n:Nat) (h:n≤1000000000):Lib.atoiAll (Lib.decDigits n)=.ok (n:Int):=by
 cases hd:Lib.decDigits n with
 | nil=>exact absurd hd (dec_ne n)
 | cons c r =>
   have hc:=dec_dig n c (by rw [hd];simp)
   have hp:Lib.parseUint10 0 (c :: r)=.ok n:=by rw [←hd];exact parse_digs _ 0 n (digs_dec n) h
   unfold Lib.atoiAll
   have hneg:¬(c.toNat=45):=by omega
   simp only
   rw [if_neg (by omega)]
   unfold Lib.parseMag
   rw [if_neg (by simp),hp]
   simp only
   rw [if_neg (by omega),if_neg (fun e=>hneg e.1),if_neg hneg]
def oz (ws:List (List UInt8)):List UInt8:=Lib.join ws [32]
theorem zi (w x:List UInt8) (ws:List (List UInt8)):oz (w :: x :: ws)=w ++ 32 :: oz (x :: ws):=by
 simp [oz,Lib.join,List.intercalate,List.intersperse]
theorem abh (w:List UInt8):oz [w]=w:=by simp [oz,Lib.join,List.intercalate]
def cut1 (b:UInt8):List UInt8→List UInt8 × List UInt8 × Bool
 | []=>([],[],false)
 | c :: s=>if c=b then ([],s,true) else (c :: (cut1 b s).1,(cut1 b s).2)
theorem cut1_word {b:UInt8}:∀ (w:List UInt8),b ∉ w→cut1 b w=(w,[],false)
 | [],_=>rfl
 | c :: w,h=>by
   have ih:=cut1_word (b:=b) w (fun e=>h (List.mem_cons_of_mem _ e))
   unfold cut1
   rw [if_neg (fun e=>h (by rw [e];exact List.mem_cons_self)),ih]
theorem adc {b:UInt8}:∀ (w s:List UInt8),b ∉ w→cut1 b (w ++ b :: s)=(w,s,true)
 | [],s,_=>by simp [cut1]
 | c :: w,s,h=>by
   have ih:=adc (b:=b) w s (fun e=>h (List.mem_cons_of_mem _ e))
   rw [List.cons_append]
   conv=>lhs;unfold cut1
   rw [if_neg (fun e=>h (by rw [e];exact List.mem_cons_self)),ih]
theorem cut_eq (b:UInt8):∀ s:List UInt8,Lib.cut s [b]=cut1 b s
 | []=>by simp [Lib.cut,Lib.index,cut1]
 | c :: l=>by
   have ih:=cut_eq b l
   by_cases h:c=b
   ·subst h
    have e:Lib.index (c :: l) [c]=0:=by
     unfold Lib.index
     rw [if_pos (by show ((c == c) && true)=true;simp)]
    unfold Lib.cut cut1
    rw [e]
    simp
   ·have hp:([b].isPrefixOf (c :: l))=false:=by
     have hb:(b == c)=false:=beq_eq_false_iff_ne.2 (Ne.symm h)
     show ((b == c) && _)=false
     rw [hb];rfl
    conv=>rhs;unfold cut1
    rw [if_neg h,←ih]
    by_cases h1:Lib.index l [b]=-1
    ·have e:Lib.index (c :: l) [b]=-1:=by unfold Lib.index;rw [hp,h1];rfl
     unfold Lib.cut
     rw [e,h1]
     simp
    ·have h0:=Lib.index_ge l [b]
     have e:Lib.index (c :: l) [b]=Lib.index l [b]+1:=by
      conv=>lhs;unfold Lib.index
      rw [hp,beq_eq_false_iff_ne.2 h1]
      simp
     unfold Lib.cut
     rw [e,if_pos (by omega),if_pos (by omega)]
     have e2:(Lib.index l [b]+1).toNat=(Lib.index l [b]).toNat+1:=by omega
     rw [e2]
     simp
theorem cut_word {w:List UInt8} (h:(32:UInt8) ∉ w):Lib.cut (oz [w]) [32]=(w,[],false):=by rw [cut_eq,abh];exact cut1_word w h
theorem cut_words {w x:List UInt8} {ws:List (List UInt8)} (h:(32:UInt8) ∉ w):Lib.cut (oz (w :: x :: ws)) [32]=(w,oz (x :: ws),true):=by rw [cut_eq,zi];exact adc w _ h
end Go.Proofs.YtpkhdihoijkamaaGreatDoor
namespace Go.Proofs.YtpkhdihoijkamaaGreatDoor.K
def eu (n:Int):List UInt8:=Lib.decDigits n.toNat
def yn (b:Bool):List UInt8:=if b then [115,116,97,121,115] else [103,111,101,115]
open Go.ChangeShapes Go.WideShapes Go.ChangeAt Go.RowKit Go.Maps
theorem acs {w w':World} {n:String} {cs:Array Value} (h:w.var? Tryz.prog n=some cs) (hb:Below w.heap.size w w'):w'.var? Tryz.prog n=some cs:=by
 unfold World.var? at h ⊢
 cases hg:Tryz.prog.globalNamed n with
 | none=>rw [hg] at h;simp at h
 | some g =>
   rw [hg] at h
   simp only [Option.bind_some] at h ⊢
   have hlt:g<w.heap.size:=by
    rcases Nat.lt_or_ge g w.heap.size with h'|h'
    ·exact h'
    ·rw [Array.getElem?_eq_none h'] at h;simp at h
   rw [hb.block g hlt]
   exact h
structure Laid (w:World):Prop where
 tab:Lib.TabIs Tryz.prog w "internal/strconv.uint64pow10" .u64 Lib.pow10Tab
 syn:∃ t p,w.var? Tryz.prog "strconv.ErrSyntax"=some #[.iface t p]
 rng:∃ t p,w.var? Tryz.prog "strconv.ErrRange"=some #[.iface t p]
 cut:∃ m,w.var? Tryz.prog "internal/bytealg.MaxLen"=some #[.int .i64 m]
theorem Laid.later {w w':World} (h:Laid w) (hb:Below w.heap.size w w'):Laid w':=by
 obtain ⟨t1,p1,h1⟩:=h.syn
 obtain ⟨t2,p2,h2⟩:=h.rng
 obtain ⟨m,h3⟩:=h.cut
 exact ⟨acs h.tab hb,⟨t1,p1,acs h1 hb⟩,⟨t2,p2,acs h2 hb⟩,⟨m,acs h3 hb⟩⟩
theorem aaz {B:Nat} {w w1:World} (h:Below B w w1):∀ n,Below B w (w1.drewN n):=fun n=>by
 exact ⟨h.os,h.tape,h.output,h.size,h.block⟩
theorem below_grow {B:Nat} {w w1:World} (h:Below B w w1) (hB:B≤w1.heap.size) (os:Array Obj):Below B w (Go.Sort.grow w1 os):=by
 refine ⟨h.os,h.tape,h.output,?_,fun k hk=>?_⟩
 ·have:=h.size
  show w.heap.size≤(w1.heap ++ os).size
  simp;omega
 ·show (w1.heap ++ os)[k]? = _
  rw [Array.getElem?_append_left (by omega)]
  exact h.block k hk
theorem itoa_any (n:Nat) (hn:n≤1000000000) (w:World) (hL:Laid w):Calls Tryz.prog 159 #[.int .i64 n] w fun e w'=>e=.returned (.string ⟨(Lib.decDigits n).toArray⟩)∧Below w.heap.size w w':=by
 refine (Tryz.strconv_Itoa n (by omega) (by omega) w hL.tab).mono ?_
 rintro e w' ⟨rfl,k,os,rfl⟩
 rw [Lib.itoa_nonneg]
 exact ⟨rfl,below_grow (aaz (Below.refl _ _) k) (Nat.le_refl _) os⟩
theorem aag (s:ByteArray) (hs:s.size≤281474976710656) (w:World) (hL:Laid w):Calls Tryz.prog 139 #[.string s] w fun e w'=>e=.returned (.int .i64 (K.numOf s))∧Below w.heap.size w w':=by
 obtain ⟨t1,p1,h1⟩:=hL.syn
 obtain ⟨t2,p2,h2⟩:=hL.rng
 exact K.aa2 s hs w t1 t2 p1 p2 h1 h2
theorem num_dec (n:Nat) (h:n≤1000000000):K.numOf ⟨(Lib.decDigits n).toArray⟩=n:=by
 unfold K.numOf
 rw [show (⟨(Lib.decDigits n).toArray⟩:ByteArray).data.toList=Lib.decDigits n from rfl,atoi_dec n h]
def OwnS (w:World) (base:Nat) (v:Value) (l:List ByteArray):Prop:=w.ownsRow base 9 1 v l.length (l.map Value.string)
theorem OwnS.later {X X':World} {base B:Nat} {v:Value} {l:List ByteArray} (h:OwnS X base v l) (hb:Below B X X') (hB:X.heap.size≤B):OwnS X' base v l:=by
 refine ⟨h.1,?_⟩
 rcases h.2 with h0|⟨g,cap,cur,e,h1,hg,h2⟩
 ·exact .inl h0
 ·have:=(Array.getElem?_eq_some_iff.1 hg).1
  exact .inr ⟨g,cap,cur,e,h1,by rw [hb.block g (by omega)];exact hg,h2⟩
theorem OwnS.block {w:World} {base:Nat} {v:Value} {l:List ByteArray} (h:OwnS w base v l):∀ k,v.ownBlock=some k→base≤k:=by
 intro k hk
 rcases h.2 with ⟨rfl,_⟩|⟨g,cap,cur,rfl,hb,_⟩
 ·cases hk
 ·simp [Value.ownBlock] at hk;omega
theorem OwnS.form {w:World} {base:Nat} {v:Value} {l:List ByteArray} (h:OwnS w base v l) (hl:l≠[]):∃ g c,v=.slice (some ⟨g,0,.none⟩) l.length c∧g<w.heap.size∧l.length≤c∧∀ (j:Nat) x,l[j]? = some x→w.cell? ⟨g,0+j,.none⟩=some (.string x):=by
 rcases h.2 with ⟨_,h0⟩|⟨g,cap,cur,rfl,hb,hg,hnc,hcm,hs,ht⟩
 ·exact absurd (List.eq_nil_of_length_eq_zero h0) hl
 ·refine ⟨g,cap,rfl,(Array.getElem?_eq_some_iff.1 hg).1,hnc,fun j x hj=>?_⟩
  have hlt:=(List.getElem?_eq_some_iff.1 hj).1
  have:=World.ownsRow.cellAt h j (by omega)
  rw [Nat.zero_add,this]
  simp [hj]
theorem zero_str:∃ i,Tryz.prog.info? 9=some i∧i.zero=some (.string ⟨#[]⟩)∧i.size=1∧i.bytes=16:=by
 have h:(Tryz.prog.info? 9).map (fun i=>(i.zero,i.size,i.bytes))=some (some (.string ⟨#[]⟩),1,16):=by kernel_rfl
 cases hi:Tryz.prog.info? 9 with
 | none=>rw [hi] at h;cases h
 | some i=>rw [hi] at h;simp at h;exact ⟨i,rfl,h.1,h.2.1,h.2.2⟩
theorem dec_len {n:Int} (h:n≤1000000000):(eu n).length≤10:=dec_len10 _ (by omega)
def mh (n:Int):ByteArray:=⟨(eu n).toArray⟩
def staysT (b:Bool):ByteArray:=if b then ⟨#[115,116,97,121,115]⟩ else ⟨#[103,111,101,115]⟩
theorem staysT_any (b:Bool) (w:World):Calls Tryz.prog 190 #[.bool b] w fun e w'=>e=.returned (.string (staysT b))∧w'=w:=staysText_any b w
theorem abb (n:Int) (h0:0≤n) (h1:n≤1000000000) (w:World) (hL:Laid w):Calls Tryz.prog 159 #[.int .i64 n] w fun e w'=>e=.returned (.string (mh n))∧Below w.heap.size w w':=by
 have:=itoa_any n.toNat (by omega) w hL
 rw [show ((n.toNat:Nat):Int)=n by omega] at this
 exact this
def At (W:World) (b:Nat) (l:List Value) (T:TypeId):Prop:=W.heap[b]? = some (.cells l.toArray T (0,0))
theorem At.cell {W:World} {b:Nat} {l:List Value} {T:TypeId} (h:At W b l T) (j:Nat):W.cell? ⟨b,j,.none⟩=l[j]? := by
 simp [World.cell?,show W.heap[b]? = _ from h]
theorem At.range {W:World} {b:Nat} {l:List Value} {T:TypeId} (h:At W b l T) (o:Nat) (cs:List Value) (hc:∀ j,j<cs.length→l[o+j]? = cs[j]?):W.rangeAt b o cs:=fun j v hv=>by
 rw [h.cell,hc j (List.getElem?_eq_some_iff.1 hv).1,hv]
theorem At.whole {W:World} {b:Nat} {l:List Value} {T:TypeId} (h:At W b l T):W.rangeAt b 0 l:=h.range 0 l (fun j _=>by rw [Nat.zero_add])
theorem At.there {W:World} {b:Nat} {l:List Value} {T:TypeId} (h:At W b l T) (o n:Nat) (ho:o+n≤l.length):W.there b o n:=fun j hj=>by
 refine ⟨?_,?_⟩
 ·rw [h.cell,List.getElem?_eq_getElem (by omega)];rfl
 ·simp [World.frozen?,show W.heap[b]? = _ from h]
theorem At.later {W W':World} {b B:Nat} {l:List Value} {T:TypeId} (h:At W b l T) (hb:Below B W W') (hB:b<B):At W' b l T:=by
 unfold At;rw [hb.block _ hB];exact h
theorem At.lt {W:World} {b:Nat} {l:List Value} {T:TypeId} (h:At W b l T):b<W.heap.size:=(Array.getElem?_eq_some_iff.1 h).1
theorem At.setCell_same {W:World} {b:Nat} {l:List Value} {T:TypeId} (h:At W b l T) (j:Nat) (v:Value):At (W.setCell ⟨b,j,.none⟩ v) b (l.set j v) T:=by
 have:=heap_setCell_same W b j _ T v h
 unfold At;rw [this];simp
theorem At.setCell_ne {W:World} {b:Nat} {l:List Value} {T:TypeId} (h:At W b l T) (p:Addr) (hp:b≠p.block) (v:Value):At (W.setCell p v) b l T:=by
 unfold At;rw [Below.heap_setCell _ _ _ _ hp];exact h
def il (l:List Value):Nat→List Value→List Value
 | _,[]=>l
 | o,v :: r=>il (l.set o v) (o+1) r
theorem At.set {T:TypeId} {b:Nat}:∀ (vs:List Value) (o:Nat) (W:World) (l:List Value),At W b l T→At (W.setCells b o vs) b (il l o vs) T
 | [],_,_,_,h=>h
 | v :: r,o,_,_,h=>At.set r (o+1) _ _ (h.setCell_same o v)
theorem aai:∀ (vs pre l:List Value),l.length=vs.length→il (pre ++ l) pre.length vs=pre ++ vs
 | [],pre,l,h=>by have:l=[]:=List.eq_nil_of_length_eq_zero (by simpa using h);subst this;rfl
 | v :: r,pre,[],h=>by simp at h
 | v :: r,pre,x :: l,h=>by
   have:=aai r (pre ++ [v]) l (by simpa using h)
   simp only [il]
   rw [show (pre ++ x :: l).set pre.length v=(pre ++ [v]) ++ l by simp]
   rw [show pre.length+1=(pre ++ [v]).length by simp,this];simp
theorem ik (vs l:List Value) (h:l.length=vs.length):il l 0 vs=vs:=aai vs [] l h
theorem below_setCells {B:Nat} {b:Nat} (hb:B≤b) {w:World}:∀ (vs:List Value) (o:Nat) (W:World),Below B w W→Below B w (W.setCells b o vs)
 | [],_,_,h=>h
 | v :: r,o,_,h=>below_setCells hb r (o+1) _ (h.setCell (by exact hb) v)
theorem ak {P:Program} {ops:Array Oper} {rest:List Oper} {dst:Option Tmp} {T ty:TypeId} {x:Operand} {pos:String} {after:Array Edge} {gd:Option (Nat × Bool)} {a:Act} {w:World} {Q:Exit→Act→World→Prop} {p v:Value}
 (law:(Instr.loadAt T p).run P w=.ok v w) (hw:Region.wanted ⟨dst,.load T x,ty,pos,after,gd⟩ (yielded ops a.tmps)=true) (hx:a.eval x=p) (h:wpList P ops Q rest (a.put dst v) w):wpList P ops Q (⟨dst,.load T x,ty,pos,after,gd⟩ :: rest) a w :=
 BigFrame.wpList_want hw fun K hK=>by unfold Oper.wp execOp;simp only [hx,Sem.run_bind,law,Result.andThen_ok,Sem.run_pure];exact hK _ _ h
theorem cu {P:Program} {ops:Array Oper} {rest:List Oper} {dst:Option Tmp} {T ty:TypeId} {x y:Operand} {pos:String} {after:Array Edge} {a:Act} {w w':World} {Q:Exit→Act→World→Prop} {p v:Value}
 (law:(Instr.storeAt T p v).run P w=.ok () w') (hx:a.eval x=p) (hy:a.eval y=v) (h:wpList P ops Q rest (a.put dst undef) w'):wpList P ops Q (⟨dst,.store T x y,ty,pos,after,.none⟩ :: rest) a w :=
 wpList_plain rfl fun K hK=>by unfold Oper.wp execOp;simp only [hx,hy,Sem.run_bind,law,Result.andThen_ok,Sem.run_pure];exact hK _ _ h
theorem tq {P:Program} {fn:Func} {r t:Tmp} {T:TypeId} {tmps:Array Value} {w:World} {b:Nat} {v:Value} (h:fn.results=#[.cell r T,.tmp t]) (hr:tmps.getD r undef=.pointer (some ⟨b,0,.none⟩))
 (law:(Instr.loadAt T (.pointer (some ⟨b,0,.none⟩))).run P w=.ok v w):(results fn tmps).run P w=.ok (.tuple #[v,tmps.getD t undef]) w:=by
 have law':(loadVar T ⟨b,0,.none⟩).run P w=.ok v w:=by simpa [Instr.loadAt,Instr.sureAddr,Sem.run_bind] using law
 simp only [Array.getD_eq_getD_getElem?] at hr
 simp [results,h,hr,asAddr,law']
theorem zg {P:Program} {fn:Func} {r:Tmp} {T:TypeId} {tmps:Array Value} {w:World} {b:Nat} {v:Value} (h:fn.results=#[.cell r T]) (hr:tmps.getD r undef=.pointer (some ⟨b,0,.none⟩))
 (law:(Instr.loadAt T (.pointer (some ⟨b,0,.none⟩))).run P w=.ok v w):(results fn tmps).run P w=.ok v w:=by
 have law':(loadVar T ⟨b,0,.none⟩).run P w=.ok v w:=by simpa [Instr.loadAt,Instr.sureAddr,Sem.run_bind] using law
 simp only [Array.getD_eq_getD_getElem?] at hr
 simp [results,h,hr,asAddr,law']
end Go.Proofs.YtpkhdihoijkamaaGreatDoor.K
namespace Go.Proofs.YtpkhdihoijkamaaGreatDoor
open Go.ChangeShapes Go.WideShapes Go.ChangeAt Go.RowKit
def keyOf:List (Int × Int)→Int→Int
 | [],_=>0
 | r :: l,who=>if r.1=who then r.2 else keyOf l who
def Row (w:World) (a:Option Addr) (n:Nat) (l:List (Int × Int)):Prop :=
 l.length=n∧n≤9223372036854775807∧(n≠0→∃ b off,a=some ⟨b,off,none⟩∧∀ i (h:i<l.length),w.cell? ⟨b,off+i*2,none⟩=some (.int .i64 l[i].1)∧w.cell? ⟨b,off+i*2+1,none⟩=some (.int .i64 l[i].2))
theorem Row.later {w w':World} {a:Option Addr} {n:Nat} {l:List (Int × Int)} (h:Row w a n l) (hb:Below w.heap.size w w'):Row w' a n l:=by
 refine ⟨h.1,h.2.1,fun hn=>?_⟩
 obtain ⟨b,off,ha,hc⟩:=h.2.2 hn
 exact ⟨b,off,ha,fun i hi=>⟨cell_later hb (hc i hi).1,cell_later hb (hc i hi).2⟩⟩
theorem keyOf_drop (l:List (Int × Int)) (who:Int) (k:Nat) (h:k<l.length):keyOf (l.drop k) who=if l[k].1=who then l[k].2 else keyOf (l.drop (k+1)) who:=by
 rw [List.drop_eq_getElem_cons h];rfl
theorem ret_int {k:IntKind} {a b:Int} (h:a=b):Ending.returned (.int k a)=.returned (.int k b):=by rw [h]
theorem fq {a b:Bool} (h:a=b):Ending.returned (.bool a)=.returned (.bool b):=by rw [h]
end Go.Proofs.YtpkhdihoijkamaaGreatDoor
