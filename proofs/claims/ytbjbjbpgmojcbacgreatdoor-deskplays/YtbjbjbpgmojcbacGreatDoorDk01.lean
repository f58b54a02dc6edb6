/- A part of the proof: what it leans on. -/
import Derived.OrdersHeld
import Derived.Test.YtbjbjbpgmojcbacGreatDoorChecked
import Derived.Below
import Derived.Shelf.Strings.OnBuilder
import Derived.Shelf.Strconv.Atoi
import Derived.Shelf.LaysM
import Derived.Shelf.Strconv.Itoa3
import Derived.Shelf.Strings.Cut
import Derived.Shelf.Strings.Count
import Derived.Shelf.Strings.Prefix
import Derived.Test.YtbjbjbpgmojcbacGreatDoorProg
import Derived.Lib.IndexMore
import Derived.Lib.ItoaNum
import Derived.Lib.Atoi
import Derived.Lib.Bytealg
import GoSem.Op.String
import Derived.Deep.RegionHeld
import Derived.Shelf.Strconv.Clone
import Derived.WalkKit
import Derived.WalkSpells
import Derived.WalkLawsBesides
import Derived.Deep.RegionHeld3
import Derived.Deep.RegionWith
import Derived.Deep.AppendLies
import Derived.Laws.IdiomStrings
import Derived.Lib.BufferRead
import Derived.BigQuiet
import Derived.Deep.QuietTactic
namespace Go.Proofs.YtbjbjbpgmojcbacGreatDoor
namespace Ar
end Ar
namespace Bk
end Bk
namespace Cd
end Cd
namespace Dk
end Dk
namespace Im
end Im
namespace Tk
end Tk
namespace Tr
end Tr
namespace Vy
end Vy
open Ar Bk Cd Dk Im Tk Tr Vy
open Tryz
variable{c:Prop}
abbrev rC:=@AllReadyH.cons
abbrev rN:=@AllReadyH.nil
abbrev aG:=@Array.getElem?_eq_some_iff
abbrev jB:=@Go.RowKit.Below.heap_setCell
abbrev bR:=@Go.RowKit.Below.refl
abbrev gM:=@List.getElem_mem
abbrev lZ:=@List.length_eq_zero_iff
abbrev nL:=@Nat.le_of_lt
abbrev nl:=@Nat.le_refl
abbrev nt:=@Nat.le_trans
abbrev nT:=@Nat.lt_of_lt_of_le
abbrev aF:=@Tryz.underlying142
abbrev fu:=@Tryz.underlying146
abbrev cI:=@Tryz.underlying151
abbrev eh:=@Tryz.underlying172
abbrev jC:=@Tryz.underlying186
abbrev wD:=@Tryz.underlying213
abbrev qR:=@Tryz.underlying236
abbrev ig:=@Tryz.underlying239
abbrev gE:=@Tryz.underlying29
abbrev fw:=@Tryz.underlying3
abbrev je:=@Tryz.underlying32
abbrev eX:=@Tryz.underlying33
abbrev U5:=@Tryz.underlying5
abbrev U9:=@Tryz.underlying9
abbrev cL:=@World.block_lt_of_cell?
abbrev gW:=@World.cell?_alloc_lt
abbrev cN:=@World.cell?_alloc_new
abbrev fZ:=@World.cell?_of_block
abbrev cO:=@World.cell?_setCell_other
abbrev cS:=@World.cell?_setCell_same
abbrev fN:=@World.frozen?_alloc_at
abbrev fB:=@World.frozen?_of_block
abbrev dF:=@decide_eq_false
abbrev al:=@decide_eq_true
abbrev gF:=@step_append_lies
abbrev wY:=@wpAnyH_ready
abbrev wK:=@wpAnyH_take
abbrev kd:=@wpList_append_lies
abbrev ae(w w':World):Prop:=Go.RowKit.Below w.heap.size w w'
theorem ag{a b c:World}(h:ae a b)(k:ae b c):ae a c:=h.trans (k.mono h.size)
theorem ax{h:Decidable c}(n:c){α:Sort _}{t e:α}:ite c t e=t:=if_pos n
theorem ab{h:Decidable c}(n:¬c){α:Sort _}{t e:α}:ite c t e=e:=if_neg n
end Go.Proofs.YtbjbjbpgmojcbacGreatDoor
set_option maxRecDepth 100000
set_option maxHeartbeats 2000000
namespace Go.Proofs.YtbjbjbpgmojcbacGreatDoor
open Ar Bk Cd Dk Im Tk Tr Vy
open Tryz
variable{a:Array Value}{f:Nat}{w:World}{R:World->Prop}
open Go.RowKit
theorem Za{p:Prop}(h:p):Hid p:=h
abbrev CB(n:Nat)(a:Array Value)(w:World)(v:Value):Prop:=Calls Tryz.prog n a w λe w'=>e=.returned v/\ae w w'
theorem mo{P:Program}{v:Value}{Q:Ending->World->Prop}(c:Calls P f a w λe w'=>e=.returned v/\R w')(h:∀w',R w'->Q (.returned v) w'):Calls P f a w Q:=c.mono λ_ w' h9=>h9.1 ▸ h w' h9.2
theorem sR{α:Type}{x:Option α}{a b:α}(h:x=some a)(e:a=b:=by kernel_rfl):x=some b:=h.trans (congrArg some e)
theorem mq{P:Program}{x:Ending}{Q:Ending->World->Prop}(c:Calls P f a w λe w'=>e=x/\R w')(h:∀w',R w'->Q x w'):Calls P f a w Q:=c.mono λ_ w' h9=>h9.1 ▸ h w' h9.2
end Go.Proofs.YtbjbjbpgmojcbacGreatDoor
namespace Go.Proofs
open YtbjbjbpgmojcbacGreatDoor (sR)
open Go.Shelf
def Tryz.lays145_ren:Go.Shelf.Ren:=⟨fun|145=>9|220=>17|219=>30|217=>52|225=>53|224=>54|267=>55|266=>89|314=>90|n=>n,fun|9=>9|4=>4|59=>38|3=>3|5=>5|46=>76|146=>105|51=>104|n=>n,fun|1=>0|n=>n⟩
theorem Tryz.lays145:Go.Proofs.Lays.n145 Tryz.prog Tryz.lays145_ren:={
 mixed:=by kernel_rfl
 f145:=sR Tryz.func9
 f217:=sR Tryz.func52
 f219:=sR Tryz.func30
 f220:=sR Tryz.func17
 f224:=sR Tryz.func54
 f225:=sR Tryz.func53
 f266:=sR Tryz.func89
 f267:=sR Tryz.func55
 f314:=sR Tryz.func90
 t3:=Tryz.underlying3
 a3:=Tryz.isAgg3
 z3:=Tryz.sizeOf3
 v3:=Tryz.zeroValue3
 t4:=Tryz.underlying4
 a4:=Tryz.isAgg4
 z4:=Tryz.sizeOf4
 v4:=Tryz.zeroValue4
 t5:=Tryz.underlying5
 a5:=Tryz.isAgg5
 z5:=Tryz.sizeOf5
 v5:=Tryz.zeroValue5
 t9:=Tryz.underlying9
 a9:=Tryz.isAgg9
 z9:=Tryz.sizeOf9
 v9:=Tryz.zeroValue9
 t46:=Tryz.underlying76
 a46:=Tryz.isAgg76
 z46:=Tryz.sizeOf76
 v46:=Tryz.zeroValue76
 t51:=Tryz.underlying104
 a51:=Tryz.isAgg104
 z51:=Tryz.sizeOf104
 v51:=Tryz.zeroValue104
 t59:=Tryz.underlying38
 a59:=Tryz.isAgg38
 z59:=Tryz.sizeOf38
 v59:=Tryz.zeroValue38
 t146:=Tryz.underlying105
 a146:=Tryz.isAgg105
 z146:=Tryz.sizeOf105
 v146:=Tryz.zeroValue105
 g1:=by kernel_rfl }
open Go.RowKit Go.Lib in
theorem Tryz.strings_Cut(s sep:ByteArray)(m:Int)(w:World)(hs:s.size<4294967281)(hm:w.cell? ⟨0,0,none⟩=some (.int .i64 m)) :
 Calls Tryz.prog 9 #[.string s,.string sep] w λe w'=>e=.returned (.tuple #[.string ⟨(Lib.cut s.data.toList sep.data.toList).1.toArray⟩,.string ⟨(Lib.cut s.data.toList sep.data.toList).2.1.toArray⟩,.bool (Lib.cut s.data.toList sep.data.toList).2.2])/\∃n,w'=w.drewN n:=Any.strings_Cut Tryz.lays145 s sep m w hs hm
def Tryz.lays138_ren:Go.Shelf.Ren:=⟨fun|138=>7|195=>13|218=>14|143=>15|219=>30|217=>52|225=>53|224=>54|267=>55|266=>89|314=>90|n=>n,fun|9=>9|3=>3|4=>4|5=>5|0=>0|46=>76|146=>105|51=>104|n=>n,fun|1=>0|n=>n⟩
theorem Tryz.lays138:Go.Proofs.Lays.n138 Tryz.prog Tryz.lays138_ren:={
 mixed:=by kernel_rfl
 f138:=sR Tryz.func7
 f143:=sR Tryz.func15
 f195:=sR Tryz.func13
 f217:=sR Tryz.func52
 f218:=sR Tryz.func14
 f219:=sR Tryz.func30
 f224:=sR Tryz.func54
 f225:=sR Tryz.func53
 f266:=sR Tryz.func89
 f267:=sR Tryz.func55
 f314:=sR Tryz.func90
 t0:=Tryz.underlying0
 a0:=Tryz.isAgg0
 z0:=Tryz.sizeOf0
 v0:=Tryz.zeroValue0
 t3:=Tryz.underlying3
 a3:=Tryz.isAgg3
 z3:=Tryz.sizeOf3
 v3:=Tryz.zeroValue3
 t4:=Tryz.underlying4
 a4:=Tryz.isAgg4
 z4:=Tryz.sizeOf4
 v4:=Tryz.zeroValue4
 t5:=Tryz.underlying5
 a5:=Tryz.isAgg5
 z5:=Tryz.sizeOf5
 v5:=Tryz.zeroValue5
 t9:=Tryz.underlying9
 a9:=Tryz.isAgg9
 z9:=Tryz.sizeOf9
 v9:=Tryz.zeroValue9
 t46:=Tryz.underlying76
 a46:=Tryz.isAgg76
 z46:=Tryz.sizeOf76
 v46:=Tryz.zeroValue76
 t51:=Tryz.underlying104
 a51:=Tryz.isAgg104
 z51:=Tryz.sizeOf104
 v51:=Tryz.zeroValue104
 t146:=Tryz.underlying105
 a146:=Tryz.isAgg105
 z146:=Tryz.sizeOf105
 v146:=Tryz.zeroValue105
 g1:=by kernel_rfl }
open Go.RowKit Go.Lib in
theorem Tryz.strings_Count_one(s:ByteArray)(c:UInt8)(w:World) :
 Calls Tryz.prog 7 #[.string s,.string ⟨#[c]⟩] w λe w'=>e=.returned (.int .i64 (Lib.countByte s.data.toList c))/\w'=w:=Any.strings_Count_one Tryz.lays138 s c w
def Tryz.lays100_ren:Go.Shelf.Ren:=⟨fun|100=>8|207=>16|n=>n,fun|9=>9|4=>4|3=>3|n=>n,fun|n=>n⟩
theorem Tryz.lays100:Go.Proofs.Lays.n100 Tryz.prog Tryz.lays100_ren:={
 mixed:=by kernel_rfl
 f100:=sR Tryz.func8
 f207:=sR Tryz.func16
 t3:=Tryz.underlying3
 a3:=Tryz.isAgg3
 z3:=Tryz.sizeOf3
 v3:=Tryz.zeroValue3
 t4:=Tryz.underlying4
 a4:=Tryz.isAgg4
 z4:=Tryz.sizeOf4
 v4:=Tryz.zeroValue4
 t9:=Tryz.underlying9
 a9:=Tryz.isAgg9
 z9:=Tryz.sizeOf9
 v9:=Tryz.zeroValue9 }
open Go.RowKit Go.Lib in
theorem Tryz.strings_HasSuffix(s p:ByteArray)(w:World)(hs:s.size<=9223372036854775807) :
 Calls Tryz.prog 8 #[.string s,.string p] w λe w'=>e=.returned (.bool (Lib.hasSuffix s.data.toList p.data.toList))/\w'=w:=Any.strings_HasSuffix Tryz.lays100 s p w hs
def Tryz.lays156_ren:Go.Shelf.Ren:=⟨fun|156=>74|165=>111|166=>112|169=>113|240=>145|241=>146|276=>193|277=>194|n=>n,fun|31=>32|9=>9|3=>3|4=>4|0=>0|20=>20|72=>126|76=>111|70=>124|37=>29|75=>110|127=>160|164=>199|5=>5|80=>41|n=>n,fun|n=>n⟩
theorem Tryz.lays156:Go.Proofs.Lays.n156 Tryz.prog Tryz.lays156_ren:={
 mixed:=by kernel_rfl
 f156:=sR Tryz.func74
 f165:=sR Tryz.func111
 f166:=sR Tryz.func112
 f169:=sR Tryz.func113
 f240:=sR Tryz.func145
 f241:=sR Tryz.func146
 f276:=sR Tryz.func193
 f277:=sR Tryz.func194
 t0:=Tryz.underlying0
 a0:=Tryz.isAgg0
 z0:=Tryz.sizeOf0
 v0:=Tryz.zeroValue0
 t3:=Tryz.underlying3
 a3:=Tryz.isAgg3
 z3:=Tryz.sizeOf3
 v3:=Tryz.zeroValue3
 t4:=Tryz.underlying4
 a4:=Tryz.isAgg4
 z4:=Tryz.sizeOf4
 v4:=Tryz.zeroValue4
 t9:=Tryz.underlying9
 a9:=Tryz.isAgg9
 z9:=Tryz.sizeOf9
 v9:=Tryz.zeroValue9
 t20:=Tryz.underlying20
 a20:=Tryz.isAgg20
 z20:=Tryz.sizeOf20
 v20:=Tryz.zeroValue20
 t31:=Tryz.underlying32
 a31:=Tryz.isAgg32
 z31:=Tryz.sizeOf32
 v31:=Tryz.zeroValue32
 t37:=Tryz.underlying29
 a37:=Tryz.isAgg29
 z37:=Tryz.sizeOf29
 v37:=Tryz.zeroValue29
 t70:=Tryz.underlying124
 a70:=Tryz.isAgg124
 z70:=Tryz.sizeOf124
 v70:=Tryz.zeroValue124
 t72:=Tryz.underlying126
 a72:=Tryz.isAgg126
 z72:=Tryz.sizeOf126
 v72:=Tryz.zeroValue126
 t75:=Tryz.underlying110
 a75:=Tryz.isAgg110
 z75:=Tryz.sizeOf110
 v75:=Tryz.zeroValue110
 t76:=Tryz.underlying111
 a76:=Tryz.isAgg111
 z76:=Tryz.sizeOf111
 v76:=Tryz.zeroValue111
 t127:=Tryz.underlying160
 a127:=Tryz.isAgg160
 z127:=Tryz.sizeOf160
 v127:=Tryz.zeroValue160
 t164:=Tryz.underlying199
 a164:=Tryz.isAgg199
 z164:=Tryz.sizeOf199
 v164:=Tryz.zeroValue199 }
theorem Tryz.Builder_Extra_156:Builder.Extra Tryz.prog Tryz.lays156_ren:={
 sizeBuilder:=by kernel_rfl
 liesBuilder:=by kernel_rfl
 t5:=Tryz.underlying5
 a5:=Tryz.isAgg5
 z5:=Tryz.sizeOf5
 v5:=Tryz.zeroValue5
 infoByte:=by kernel_rfl
 cellsByte:=by kernel_rfl
 sizeByte:=by kernel_rfl
 neB5:=by decide }
open Go.RowKit in
theorem Tryz.strings_Join(bk o c:Nat)(xs:List ByteArray)(sep:ByteArray)(w:World)(hcells:∀(j:Nat) x,xs[j]?=some x->w.cell? ⟨bk,o+j,none⟩=some (.string x))(hbk:bk<w.heap.size)(hN:xs.length<=140737488355328)(hcap:xs.length<=c)(hlen:(Lib.join (xs.map (·.data.toList)) sep.data.toList).length<=140737488355328) :
 Calls Tryz.prog 74 #[.slice (some ⟨bk,o,none⟩) xs.length c,.string sep] w λe w'=>e=.returned (.string ⟨(Lib.join (xs.map (·.data.toList)) sep.data.toList).toArray⟩)/\Below w.heap.size w w':=Any.strings_Join Tryz.lays156 Tryz.Builder_Extra_156 bk o c xs sep w hcells hbk hN hcap hlen
open Go.RowKit in
theorem Tryz.strings_Join_none(a:Option Addr)(c:Nat)(sep:ByteArray)(w:World) :
 Calls Tryz.prog 74 #[.slice a 0 c,.string sep] w λe w'=>e=.returned (.string ⟨#[]⟩)/\w'=w:=Any.strings_Join_none Tryz.lays156 Tryz.Builder_Extra_156 a c sep w
def Tryz.laysM171_ren:Go.Shelf.Ren:=⟨fun|171=>19|243=>43|246=>77|283=>119|284=>120|285=>121|286=>122|129=>158|317=>157|318=>159|319=>160|320=>161|337=>202|338=>203|n=>n,fun|3=>3|9=>9|2=>2|4=>4|171=>136|0=>0|53=>137|37=>29|5=>5|173=>140|212=>166|51=>104|20=>20|213=>167|46=>76|232=>234|233=>235|n=>n,fun|17=>1|18=>4|19=>5|n=>n⟩
theorem Tryz.laysM171:Go.Proofs.LaysM.n171 Tryz.prog Tryz.laysM171_ren:={
 mixed:=by kernel_rfl
 f129:=sR Tryz.func158
 f171:=sR Tryz.func19
 f243:=sR Tryz.func43
 f246:=sR Tryz.func77
 f283:=sR Tryz.func119
 f284:=sR Tryz.func120
 f285:=sR Tryz.func121
 f286:=sR Tryz.func122
 f317:=sR Tryz.func157
 f318:=sR Tryz.func159
 f319:=sR Tryz.func160
 f320:=sR Tryz.func161
 f337:=sR Tryz.func202
 f338:=sR Tryz.func203
 t0:=Tryz.underlying0
 a0:=Tryz.isAgg0
 z0:=Tryz.sizeOf0
 v0:=Tryz.zeroValue0
 t2:=Tryz.underlying2
 a2:=Tryz.isAgg2
 z2:=Tryz.sizeOf2
 v2:=Tryz.zeroValue2
 t3:=Tryz.underlying3
 a3:=Tryz.isAgg3
 z3:=Tryz.sizeOf3
 v3:=Tryz.zeroValue3
 t4:=Tryz.underlying4
 a4:=Tryz.isAgg4
 z4:=Tryz.sizeOf4
 v4:=Tryz.zeroValue4
 t5:=Tryz.underlying5
 a5:=Tryz.isAgg5
 z5:=Tryz.sizeOf5
 v5:=Tryz.zeroValue5
 t9:=Tryz.underlying9
 a9:=Tryz.isAgg9
 z9:=Tryz.sizeOf9
 v9:=Tryz.zeroValue9
 t20:=Tryz.underlying20
 a20:=Tryz.isAgg20
 z20:=Tryz.sizeOf20
 v20:=Tryz.zeroValue20
 t37:=Tryz.underlying29
 a37:=Tryz.isAgg29
 z37:=Tryz.sizeOf29
 v37:=Tryz.zeroValue29
 t46:=Tryz.underlying76
 a46:=Tryz.isAgg76
 z46:=Tryz.sizeOf76
 v46:=Tryz.zeroValue76
 t51:=Tryz.underlying104
 a51:=Tryz.isAgg104
 z51:=Tryz.sizeOf104
 v51:=Tryz.zeroValue104
 t53:=Tryz.underlying137
 a53:=Tryz.isAgg137
 z53:=Tryz.sizeOf137
 v53:=Tryz.zeroValue137
 t171:=Tryz.underlying136
 a171:=Tryz.isAgg136
 z171:=Tryz.sizeOf136
 v171:=Tryz.zeroValue136
 t173:=Tryz.underlying140
 a173:=Tryz.isAgg140
 z173:=Tryz.sizeOf140
 v173:=Tryz.zeroValue140
 t212:=Tryz.underlying166
 a212:=Tryz.isAgg166
 z212:=Tryz.sizeOf166
 v212:=Tryz.zeroValue166
 t213:=Tryz.underlying167
 a213:=Tryz.isAgg167
 z213:=Tryz.sizeOf167
 t232:=Tryz.underlying234
 a232:=Tryz.isAgg234
 z232:=Tryz.sizeOf234
 v232:=Tryz.zeroValue234
 t233:=Tryz.underlying235
 a233:=Tryz.isAgg235
 z233:=Tryz.sizeOf235
 v233:=Tryz.zeroValue235
 g17:=by kernel_rfl
 g18:=by kernel_rfl
 g19:=by kernel_rfl
 i0:=by kernel_rfl
 i2:=by kernel_rfl
 i3:=by kernel_rfl
 i4:=by kernel_rfl
 i5:=by kernel_rfl
 i9:=by kernel_rfl
 i20:=by kernel_rfl
 i37:=by kernel_rfl
 i46:=by kernel_rfl
 i51:=by kernel_rfl
 i53:=by kernel_rfl
 i171:=by kernel_rfl
 i173:=by kernel_rfl
 i212:=by kernel_rfl
 i232:=by kernel_rfl
 i233:=by kernel_rfl
 m17:=by kernel_rfl
 m18:=by kernel_rfl
 m19:=by kernel_rfl }
open Go.RowKit Go.Sort Go.Lib in
theorem Tryz.strconv_Itoa (n : Int) (h0 : -9223372036854775808 ≤ n) (h1 : n ≤ 9223372036854775807) (w : World) (htab : Lib.TabIs Tryz.prog w "internal/strconv.uint64pow10" .u64 Lib.pow10Tab) :
 Calls Tryz.prog 19 #[.int .i64 n] w λe w'=>e=.returned (.string ⟨(Lib.itoa n).toArray⟩)/\∃k os,w'=grow (w.drewN k) os:=Any.strconv_Itoa Tryz.laysM171 n h0 h1 w htab
def Tryz.lays172_ren:Go.Shelf.Ren:=⟨fun|172=>93|244=>129|245=>130|247=>171|279=>172|280=>173|281=>174|282=>175|287=>207|316=>110|171=>19|205=>208|321=>235|322=>236|243=>43|246=>77|283=>119|284=>120|285=>121|286=>122|129=>158|317=>157|318=>159|319=>160|320=>161|337=>202|338=>203|n=>n,fun|9=>9|3=>3|75=>110|76=>111|4=>4|5=>5|167=>180|37=>29|0=>0|85=>181|2=>2|168=>183|53=>137|175=>207|46=>76|210=>210|127=>160|145=>246|143=>244|21=>21|171=>136|173=>140|212=>166|51=>104|20=>20|213=>167|232=>234|233=>235|80=>41|n=>n,fun|15=>2|16=>3|17=>1|18=>4|19=>5|n=>n⟩
theorem Tryz.lays172:Go.Proofs.Lays.n172 Tryz.prog Tryz.lays172_ren:={
 mixed:=by kernel_rfl
 f129:=sR Tryz.func158
 f171:=sR Tryz.func19
 f172:=sR Tryz.func93
 f205:=sR Tryz.func208
 f243:=sR Tryz.func43
 f244:=sR Tryz.func129
 f245:=sR Tryz.func130
 f246:=sR Tryz.func77
 f247:=sR Tryz.func171
 f279:=sR Tryz.func172
 f280:=sR Tryz.func173
 f281:=sR Tryz.func174
 f282:=sR Tryz.func175
 f283:=sR Tryz.func119
 f284:=sR Tryz.func120
 f285:=sR Tryz.func121
 f286:=sR Tryz.func122
 f287:=sR Tryz.func207
 f316:=sR Tryz.func110
 f317:=sR Tryz.func157
 f318:=sR Tryz.func159
 f319:=sR Tryz.func160
 f320:=sR Tryz.func161
 f321:=sR Tryz.func235
 f322:=sR Tryz.func236
 f337:=sR Tryz.func202
 f338:=sR Tryz.func203
 t0:=Tryz.underlying0
 a0:=Tryz.isAgg0
 z0:=Tryz.sizeOf0
 v0:=Tryz.zeroValue0
 t2:=Tryz.underlying2
 a2:=Tryz.isAgg2
 z2:=Tryz.sizeOf2
 v2:=Tryz.zeroValue2
 t3:=Tryz.underlying3
 a3:=Tryz.isAgg3
 z3:=Tryz.sizeOf3
 v3:=Tryz.zeroValue3
 t4:=Tryz.underlying4
 a4:=Tryz.isAgg4
 z4:=Tryz.sizeOf4
 v4:=Tryz.zeroValue4
 t5:=Tryz.underlying5
 a5:=Tryz.isAgg5
 z5:=Tryz.sizeOf5
 v5:=Tryz.zeroValue5
 t9:=Tryz.underlying9
 a9:=Tryz.isAgg9
 z9:=Tryz.sizeOf9
 v9:=Tryz.zeroValue9
 t20:=Tryz.underlying20
 a20:=Tryz.isAgg20
 z20:=Tryz.sizeOf20
 v20:=Tryz.zeroValue20
 t21:=Tryz.underlying21
 a21:=Tryz.isAgg21
 z21:=Tryz.sizeOf21
 v21:=Tryz.zeroValue21
 t37:=Tryz.underlying29
 a37:=Tryz.isAgg29
 z37:=Tryz.sizeOf29
 v37:=Tryz.zeroValue29
 t46:=Tryz.underlying76
 a46:=Tryz.isAgg76
 z46:=Tryz.sizeOf76
 v46:=Tryz.zeroValue76
 t51:=Tryz.underlying104
 a51:=Tryz.isAgg104
 z51:=Tryz.sizeOf104
 v51:=Tryz.zeroValue104
 t53:=Tryz.underlying137
 a53:=Tryz.isAgg137
 z53:=Tryz.sizeOf137
 v53:=Tryz.zeroValue137
 t75:=Tryz.underlying110
 a75:=Tryz.isAgg110
 z75:=Tryz.sizeOf110
 v75:=Tryz.zeroValue110
 t76:=Tryz.underlying111
 a76:=Tryz.isAgg111
 z76:=Tryz.sizeOf111
 v76:=Tryz.zeroValue111
 t85:=Tryz.underlying181
 a85:=Tryz.isAgg181
 z85:=Tryz.sizeOf181
 v85:=Tryz.zeroValue181
 t127:=Tryz.underlying160
 a127:=Tryz.isAgg160
 z127:=Tryz.sizeOf160
 v127:=Tryz.zeroValue160
 t143:=Tryz.underlying244
 a143:=Tryz.isAgg244
 z143:=Tryz.sizeOf244
 v143:=Tryz.zeroValue244
 t145:=Tryz.underlying246
 a145:=Tryz.isAgg246
 z145:=Tryz.sizeOf246
 v145:=Tryz.zeroValue246
 t167:=Tryz.underlying180
 a167:=Tryz.isAgg180
 z167:=Tryz.sizeOf180
 v167:=Tryz.zeroValue180
 t168:=Tryz.underlying183
 a168:=Tryz.isAgg183
 z168:=Tryz.sizeOf183
 v168:=Tryz.zeroValue183
 t171:=Tryz.underlying136
 a171:=Tryz.isAgg136
 z171:=Tryz.sizeOf136
 v171:=Tryz.zeroValue136
 t173:=Tryz.underlying140
 a173:=Tryz.isAgg140
 z173:=Tryz.sizeOf140
 v173:=Tryz.zeroValue140
 t175:=Tryz.underlying207
 a175:=Tryz.isAgg207
 z175:=Tryz.sizeOf207
 v175:=Tryz.zeroValue207
 t210:=Tryz.underlying210
 a210:=Tryz.isAgg210
 z210:=Tryz.sizeOf210
 v210:=Tryz.zeroValue210
 t212:=Tryz.underlying166
 a212:=Tryz.isAgg166
 z212:=Tryz.sizeOf166
 v212:=Tryz.zeroValue166
 t213:=Tryz.underlying167
 a213:=Tryz.isAgg167
 z213:=Tryz.sizeOf167
 t232:=Tryz.underlying234
 a232:=Tryz.isAgg234
 z232:=Tryz.sizeOf234
 v232:=Tryz.zeroValue234
 t233:=Tryz.underlying235
 a233:=Tryz.isAgg235
 z233:=Tryz.sizeOf235
 v233:=Tryz.zeroValue235
 g15:=by kernel_rfl
 g16:=by kernel_rfl
 g17:=by kernel_rfl
 g18:=by kernel_rfl
 g19:=by kernel_rfl }
open Go.RowKit in
theorem Tryz.strconv_Atoi(s:ByteArray)(n:Int)(hl:s.size<=18)(h:Lib.atoi s.data.toList=some n)(w:World) :
 Calls Tryz.prog 93 #[.string s] w λe w'=>e=.returned (.tuple #[.int .i64 n,.nilIface])/\∃t,w'=Lib.bytesWorld w 5 t:=Any.strconv_Atoi Tryz.lays172 s n hl h w
end Go.Proofs
namespace Go.Proofs.YtbjbjbpgmojcbacGreatDoor
open Ar Bk Cd Dk Im Tk Tr Vy
open Tryz
variable{l:List UInt8}{n:Nat}
namespace Dk
def Wr(c:UInt8):List UInt8->List UInt8×List UInt8×Bool
 |[]=>([],[],false)
 |x :: l=>if x=c then([],l,true) else(x :: (Wr c l).1,(Wr c l).2.1,(Wr c l).2.2)
def VJ(n:Nat):List UInt8:=if _h:n<10 then [UInt8.ofNat (48+n)] else VJ (n/10)++[UInt8.ofNat (48+n%10)]
def val(l:List UInt8):Nat:=l.foldl (λn x=>10*n+(x.toNat-48)) 0
def lE(x:UInt8):Prop:=48<=x.toNat/\x.toNat<=57
def Ws(l:List UInt8):Prop:=1<=l.length/\l.length<=6/\(∀x∈l,lE x)/\(l.length=1\/l.head? ≠ some 48)
theorem cU(l:List UInt8)(x:UInt8):val (l++[x])=10*val l+(x.toNat-48):=by simp[val]
theorem aa1(h:n<10):VJ n=[UInt8.ofNat (48+n)]:=by rw[VJ,dif_pos h]
theorem dL(h:¬n<10):VJ n=VJ (n/10)++[UInt8.ofNat (48+n%10)]:=by rw[VJ,dif_neg h]
theorem om(n:Nat):VJ n ≠ []:=by
 by_cases h:n<10
 ·rw[aa1 h];simp
 ·rw[dL h];simp
theorem qS{x:UInt8}(h:lE x):UInt8.ofNat (48+(x.toNat-48))=x:=by
 obtain⟨h1,h2⟩:=h;rw[show 48+(x.toNat-48)=x.toNat by omega];simp
theorem kt(n:Nat):1<=n->(VJ n).head? ≠ some 48:=by
 induction n using Nat.strongRecOn with
 |ind n ih =>
  intro h1;by_cases h:n<10
  ·rw[aa1 h];intro e;have e2:=congrArg UInt8.toNat (Option.some.inj (by simpa using e:some (UInt8.ofNat (48+n))=some 48));rw[UInt8.toNat_ofNat']at e2;simp at e2;omega
  ·rw[dL h,List.head?_append];have h2:=ih (n/10) (by omega) (by omega)
   cases hd:VJ (n/10) with
   |nil=>exact absurd hd (om _)
   |cons y t=>rw[hd]at h2;simpa using h2
theorem lX:∀(l:List UInt8),l ≠ []->(∀x∈l,lE x)->(l.length=1\/l.head? ≠ some 48)->VJ (val l)=l/\(l.head? ≠ some 48->1<=val l):=by
 intro l
 induction h:l.length generalizing l with
 |zero=>intro h1;exact absurd (lZ.1 h) h1
 |succ n ih =>
  intro h1 h2 h3
  obtain⟨l',x,rfl⟩:∃l' x,l=l'++[x]:=⟨l.dropLast,l.getLast h1,(List.dropLast_concat_getLast h1).symm⟩
  have hx:=h2 x (by simp);obtain⟨hx1,hx2⟩:=id hx;rw[cU]
  cases l' with
  |nil =>
   simp only[List.nil_append];rw[show val []=0 from rfl,show 10*0+(x.toNat-48)=x.toNat-48 by omega,aa1 (by omega),qS hx];refine⟨rfl,λh9=>?_⟩;have:x.toNat≠48:=λe=>h9 (by simp;exact UInt8.toNat_inj.1 (by simpa using e))
   omega
  |cons y t =>
   have hh:(y :: t).head? ≠ some 48:=by
    rcases h3 with h3|h3
    ·simp at h h3;omega
    ·simpa using h3
   obtain⟨i1,i2⟩:=ih (y :: t) (by simp at h |-;omega) (by simp) (λz hz=>h2 z (List.mem_append_left _ hz)) (.inr hh);have i3:=i2 hh;rw[dL (by omega),show(10*val (y :: t)+(x.toNat-48))/10=val (y :: t) by omega,show(10*val (y :: t)+(x.toNat-48))%10=x.toNat-48 by omega,i1,qS hx];exact⟨rfl,λ_=>by omega⟩
theorem jf(l:List UInt8):Ws l↔(1<=l.length/\l.length<=6/\(∀x∈l,lE x)/\VJ (val l)=l):=by
 constructor
 ·rintro⟨h1,h2,h3,h4⟩;exact⟨h1,h2,h3,(lX l (λe=>by rw[e]at h1;simp at h1) h3 h4).1⟩
 ·rintro⟨h1,h2,h3,h4⟩;refine⟨h1,h2,h3,?_⟩;by_cases hl:l.length=1
  ·exact .inl hl
  ·refine .inr ?_;rw[<-h4];refine kt _ ?_;by_cases hv:val l<1
   ·exfalso
    rw[aa1 (by omega)]at h4;have:=congrArg List.length h4;simp at this;omega
   ·omega
instance (l:List UInt8):Decidable (Ws l):=by unfold Ws lE;infer_instance
def ba(l:List UInt8):ByteArray:=⟨l.toArray⟩
theorem dY{c:UInt8}:∀{l:List UInt8},(Wr c l).2.2=false->(Wr c l).1=l/\(Wr c l).2.1=[]
 |[],_=>⟨rfl,rfl⟩
 |x :: l,h=>by
  unfold Wr at h |-
  by_cases hx:x=c
  ·rw[ax hx]at h;cases h
  ·rw[ab hx]at h |-
   obtain⟨h1,h2⟩:=dY (l:=l) h;exact⟨by simp only[h1],h2⟩
theorem jg{c:UInt8}:∀{l:List UInt8},(Wr c l).2.2=true->l=(Wr c l).1++c :: (Wr c l).2.1/\c ∉ (Wr c l).1
 |[],h=>by cases h
 |x :: l,h=>by
  unfold Wr at h |-
  by_cases hx:x=c
  ·rw[ax hx];subst hx;exact⟨rfl,by simp⟩
  ·rw[ab hx]at h |-
   obtain⟨h1,h2⟩:=jg (l:=l) h;exact⟨congrArg (x :: ·) h1,by simp;exact⟨λe=>hx e.symm,h2⟩⟩
theorem dz{c:UInt8}:∀{l:List UInt8},c ∉ l->Wr c l=(l,[],false)
 |[],_=>rfl
 |x :: l,h=>by
  unfold Wr;rw[ab (λe=>h (by simp[e])),dz (l:=l) (λe=>h (by simp[e]))]
theorem gh(h:Ws l):(32:UInt8) ∉ l:=λe=>by
 have:=(h.2.2.1 _ e).1;simp at this
theorem fx:∀(l:List UInt8),(∀x∈l,lE x)->val l<10^l.length:=by
 intro l
 induction h:l.length generalizing l with
 |zero=>intro _;rw[List.length_eq_zero_iff.1 h];decide
 |succ n ih =>
  intro h2;have h1:l ≠ []:=λe=>by rw[e]at h;simp at h
  obtain⟨l',x,rfl⟩:∃l' x,l=l'++[x]:=⟨l.dropLast,l.getLast h1,(List.dropLast_concat_getLast h1).symm⟩
  have i1:=ih l' (by simp at h;omega) (λz hz=>h2 z (List.mem_append_left _ hz));obtain⟨_,hx⟩:lE x:=h2 x (by simp);rw[cU,Nat.pow_succ];omega
theorem eY(h:Ws l):val l<1000000 :=
 nT (fx l h.2.2.1) (Nat.pow_le_pow_right (by decide) h.2.1)
end Dk
namespace Dk
theorem iI(c x:UInt8)(l:List UInt8):Lib.index (x :: l) [c]=if x=c then 0 else if Lib.index l [c]=-1 then -1 else Lib.index l [c]+1:=by
 rw[Lib.index];by_cases h:x=c
 ·simp[h,List.isPrefixOf]
 ·have h2:¬c=x:=λe=>h e.symm
  simp[h,h2,List.isPrefixOf]
theorem jh(c:UInt8):∀l:List UInt8,Lib.cut l [c]=Wr c l
 |[]=>by simp[Lib.cut,Lib.index,Wr]
 |x :: l=>by
  have h:=jh c l;have hg:=Lib.index_ge l [c];unfold Lib.cut at h |-
  rw[iI];unfold Wr;by_cases hx:x=c
  ·simp[hx]
  ·rw[ab hx,ab hx,<-h];by_cases hi:Lib.index l [c]=-1
   ·rw[ax hi,hi];simp
   ·rw[ab hi,ax (show 0<=Lib.index l [c]+1 by omega),ax (show 0<=Lib.index l [c] by omega),show(Lib.index l [c]+1).toNat=(Lib.index l [c]).toNat+1 by omega];simp
theorem lY(n:Nat):Lib.decDigits n=VJ n:=by
 induction n using Nat.strongRecOn with
 |ind n ih =>
  rw[Lib.decDigits];by_cases h:n<10
  ·rw[aa1 h];simp[h]
  ·rw[dL h,<-ih (n/10) (by omega)];simp[h]
theorem ku(n:Nat):Lib.itoa (n:Int)=VJ n:=by
 unfold Lib.itoa;rw[ab (by omega),lY];simp
theorem ij:∀(l:List UInt8) (acc:Nat),(∀x∈l,lE x)->Lib.decFrom acc l=some (l.foldl (λn x=>10*n+(x.toNat-48)) acc)
 |[],acc,_=>rfl
 |x :: l,acc,h=>by
  have hx:48<=x.toNat/\x.toNat<=57:=h x (by simp);have h2:=ij l (10*acc+(x.toNat-48)) (λy hy=>h y (by simp[hy]));rw[Lib.decFrom,Lib.digitVal,ax hx];simp only[List.foldl_cons];rw[<-h2,Nat.mul_comm 10 acc]
theorem kv(h:Ws l):Lib.atoi l=some (val l:Int):=by
 obtain⟨h1,_,h3,_⟩:=h;have hd:=ij l 0 h3
 cases l with
 |nil=>simp at h1
 |cons x t =>
  have hx:48<=x.toNat/\x.toNat<=57:=h3 x (by simp)
  have e1:(x==45)=false:=by
   apply Bool.eq_false_iff.2;intro e;have e9:=congrArg UInt8.toNat (eq_of_beq e);simp at e9;omega
  have e2:(x==43)=false:=by
   apply Bool.eq_false_iff.2;intro e;have e9:=congrArg UInt8.toNat (eq_of_beq e);simp at e9;omega
  have e3:Lib.decNat (x :: t)=some (val (x :: t)):=hd;rw[Lib.atoi,e1,e2,e3];rfl
end Dk
end Go.Proofs.YtbjbjbpgmojcbacGreatDoor
namespace Go.Proofs.YtbjbjbpgmojcbacGreatDoor.Vy
open Ar Bk Cd Dk Im Tk Tr Vy
open Tryz
variable{s:ByteArray}{k n:Nat}
def gG:Nat->Nat->List UInt8
 |0,n=>[UInt8.ofNat n]
 |f+1,n=>if n<128 then [UInt8.ofNat n] else UInt8.ofNat (128+n%128) :: gG f (n/128)
def VB(n:Nat):List UInt8:=gG n n
theorem IF:∀(f g n:Nat),n<=f->n<=g->gG f n=gG g n:=by
 intro f
 induction f with
 |zero =>
  intro g n hf hg;have:n=0:=by omega
  subst this
  cases g<;>simp[gG]
 |succ f ih =>
  intro g n hf hg
  cases g with
  |zero =>
   have:n=0:=by omega
   subst this;simp[gG]
  |succ g =>
   simp only[gG];by_cases h:n<128
   ·simp[h]
   ·simp only[h,if_false];rw[ih g (n/128) (by omega) (by omega)]
theorem YW(h:n<128):VB n=[UInt8.ofNat n]:=by
 unfold VB
 cases n with
 |zero=>rfl
 |succ n=>simp[gG,h]
theorem aak(h:128<=n):VB n=UInt8.ofNat (128+n%128) :: VB (n/128):=by
 unfold VB
 obtain⟨m,rfl⟩:∃m,n=m+1:=⟨n-1,by omega⟩
 rw[gG,ab (by omega),IF m ((m+1)/128) ((m+1)/128) (by omega) (by omega)]
theorem wE(n:Nat):VB n ≠ []:=by
 by_cases h:n<128
 ·rw[YW h];simp
 ·rw[aak (by omega)];simp
theorem uf:∀(k n:Nat),n<128^(k+1)->(VB n).length<=k+1:=by
 intro k
 induction k with
 |zero=>intro n h;rw[YW (by simpa using h)];simp
 |succ k ih =>
  intro n h;by_cases h2:n<128
  ·rw[YW h2];simp
  ·rw[aak (by omega),List.length_cons]
   have:=ih (n/128) (by
    rw[Nat.pow_succ]at h
    exact(Nat.div_lt_iff_lt_mul (by omega)).2 h)
   omega
theorem V3(n:Nat)(h:n<=2147483647):(VB n).length<=5:=uf 4 n (by omega)
theorem IG(n:Nat):1<=(VB n).length:=by
 have:=wE n
 cases h:VB n with
 |nil=>exact absurd h this
 |cons a l=>simp
def val:List UInt8->Nat
 |[]=>0
 |b :: t=>b.toNat%128+128*val t
theorem cU(p:List UInt8)(b:UInt8):val (p++[b])=val p+b.toNat%128*128^p.length:=by
 induction p with
 |nil=>simp[val]
 |cons a p ih =>
  simp only[List.cons_append,val,ih,List.length_cons,Nat.pow_succ,Nat.mul_add]
  rw[show b.toNat%128*(128^p.length*128)=128*(b.toNat%128*128^p.length) by
   rw[<-Nat.mul_assoc,Nat.mul_comm]]
  omega
theorem aai(p:List UInt8):val p<128^p.length:=by
 induction p with
 |nil=>simp[val]
 |cons a p ih =>
  simp only[val,List.length_cons,Nat.pow_succ];have:a.toNat%128<128:=Nat.mod_lt _ (by omega);omega
def pre:Nat->List UInt8->Option (List UInt8)
 |0,_=>none
 |_+1,[]=>none
 |k+1,b :: t=>if b.toNat<128 then some [b] else(pre k t).map (b :: ·)
theorem II:∀(k:Nat) (l:List UInt8),(∀j,j<k->∀b,l[j]?=some b->128<=b.toNat)->pre k l=none:=by
 intro k
 induction k with
 |zero=>intro l _;cases l<;>rfl
 |succ k ih =>
  intro l h
  cases l with
  |nil=>rfl
  |cons b t =>
   have hb:=h 0 (by omega) b rfl;rw[pre,ab (by omega),ih t (λj hj c hc=>h (j+1) (by omega) c (by simpa using hc))];rfl
theorem BB:∀(k i:Nat) (l:List UInt8) (b:UInt8),i<k->l[i]?=some b->b.toNat<128 →
 (∀j,j<i->∀c,l[j]?=some c->128<=c.toNat)->pre k l=some (l.take (i+1)):=by
 intro k
 induction k with
 |zero=>intro i l b h;omega
 |succ k ih =>
  intro i l b hi hb hlt h
  cases l with
  |nil=>simp at hb
  |cons c t =>
   cases i with
   |zero =>
    simp at hb;subst hb;simp[pre,hlt]
   |succ i =>
    have hc:=h 0 (by omega) c rfl;rw[pre,ab (by omega),ih i t b (by omega) (by simpa using hb) hlt (λj hj d hd=>h (j+1) (by omega) d (by simpa using hd))];rfl
def Zt(l:List UInt8):Option (Nat×Nat) :=
 match pre 5 l with
 |none=>none
 |some p=>if val p<=2147483647/\VB (val p)=p then some (val p,p.length) else none
theorem IJ:∀(k:Nat) (l p:List UInt8),pre k l=some p →
 ∃q b,p=q++[b]/\b.toNat<128/\(∀c∈q,128<=c.toNat)/\l=p++l.drop p.length/\p.length<=k:=by
 intro k
 induction k with
 |zero=>intro l p h;simp[pre]at h
 |succ k ih =>
  intro l p h
  cases l with
  |nil=>simp[pre]at h
  |cons b t =>
   by_cases hb:b.toNat<128
   ·simp[pre,hb]at h;subst h;exact⟨[],b,rfl,hb,by simp,by simp,by simp⟩
   ·rw[pre,ab hb]at h
    cases hp:pre k t with
    |none=>rw[hp]at h;simp at h
    |some p' =>
     rw[hp]at h;simp at h;subst h;obtain⟨q,c,rfl,h1,h2,h3,h4⟩:=ih t p' hp;refine⟨b :: q,c,by simp,h1,?_,?_,?_⟩
     ·intro d hd;rcases List.mem_cons.1 hd with rfl|hd
      ·omega
      ·exact h2 d hd
     ·simp only[List.cons_append,List.length_cons,List.drop_succ_cons];rw[<-h3]
     ·simp only[List.length_cons];omega
theorem BC(b:UInt8):UInt8.ofNat b.toNat=b:=by simp
theorem IK(b:UInt8)(h:128<=b.toNat):UInt8.ofNat (128+b.toNat%128)=b:=by
 have h2:=b.toNat_lt;have:128+b.toNat%128=b.toNat:=by omega
 rw[this,BC]
theorem IL:∀(q:List UInt8) (b:UInt8),b.toNat<128->(∀c∈q,128<=c.toNat)->(q=[]\/b≠0)->VB (val (q++[b]))=q++[b]:=by
 intro q
 induction q with
 |nil =>
  intro b hb _ _;simp only[List.nil_append,val,Nat.mul_zero,Nat.add_zero];rw[Nat.mod_eq_of_lt hb,YW hb,BC]
 |cons c q ih =>
  intro b hb hq h0
  have hb0:b≠0:=by
   rcases h0 with h0|h0
   ·simp at h0
   ·exact h0
  have hc:=hq c (by simp);have ih':=ih b hb (λd hd=>hq d (by simp[hd])) (Or.inr hb0)
  have hpos:1<=val (q++[b]):=by
   rw[cU]
   have:1<=b.toNat%128:=by
    rw[Nat.mod_eq_of_lt hb];rcases Nat.eq_zero_or_pos b.toNat with h|h
    ·exact absurd (by simpa using congrArg UInt8.ofNat h) hb0
    ·exact h
   have h2:1<=128^q.length:=Nat.pow_pos (by omega);have:=Nat.mul_le_mul this h2;omega
  simp only[List.cons_append,val];rw[aak (by omega)]
  rw[show(c.toNat%128+128*val (q++[b]))%128=c.toNat%128 by omega,
   show(c.toNat%128+128*val (q++[b]))/128=val (q++[b]) by omega,IK c hc,ih']
theorem IN:∀(f n:Nat),n<=f->128<=n->∃q b,VB n=q++[b]/\b≠0:=by
 intro f
 induction f with
 |zero=>intro n h1 h2;omega
 |succ f ih =>
  intro n h1 h2;rw[aak h2];by_cases h:n/128<128
  ·rw[YW h];refine⟨[UInt8.ofNat (128+n%128)],UInt8.ofNat (n/128),rfl,?_⟩;intro e;have:=congrArg UInt8.toNat e;simp at this;omega
  ·obtain⟨q,b,hq,hb⟩:=ih (n/128) (by omega) (by omega);exact⟨UInt8.ofNat (128+n%128) :: q,b,by rw[hq];rfl,hb⟩
theorem fe(q:List UInt8)(h:q ≠ [])(n:Nat):VB n≠q++[0]:=by
 intro e;by_cases hn:n<128
 ·rw[YW hn]at e;have:=congrArg List.length e;simp at this;exact h this
 ·obtain⟨q',b,hq,hb⟩:=IN n n (nl _) (by omega);rw[hq]at e;have:=List.append_inj' e rfl;simp at this;exact hb this.2
theorem IP:∀(f n:Nat),n<=f->val (VB n)=n:=by
 intro f
 induction f with
 |zero =>
  intro n h;have:n=0:=by omega
  subst this;rw[YW (by omega)];simp[val]
 |succ f ih =>
  intro n h;by_cases hn:n<128
  ·rw[YW hn];simp only[val,UInt8.toNat_ofNat'];omega
  ·rw[aak (by omega)];simp only[val,UInt8.toNat_ofNat'];rw[ih (n/128) (by omega)];omega
theorem IQ:∀(k n:Nat) (r:List UInt8),(VB n).length<=k->pre k (VB n++r)=some (VB n):=by
 intro k
 induction k with
 |zero=>intro n r h;have:=IG n;omega
 |succ k ih =>
  intro n r h;by_cases hn:n<128
  ·rw[YW hn];simp only[List.cons_append,List.nil_append,pre,UInt8.toNat_ofNat'];rw[ax (by omega)]
  ·rw[aak (by omega)]at h |-
   simp only[List.length_cons]at h;simp only[List.cons_append,pre,UInt8.toNat_ofNat'];rw[ab (by omega),ih (n/128) r (by omega)];rfl
theorem Ym(n:Nat)(r:List UInt8)(h:n<=2147483647):Zt (VB n++r)=some (n,(VB n).length):=by
 unfold Zt;rw[IQ 5 n r (V3 n h)];simp only[IP n n (Nat.le_refl _)];simp[h]
theorem WM{l:List UInt8}(h:Zt l=some (n,k)):n<=2147483647/\VB n=l.take k/\k<=l.length/\1<=k/\k<=5:=by
 unfold Zt at h
 cases hp:pre 5 l with
 |none=>rw[hp]at h;simp at h
 |some p =>
  rw[hp]at h;simp only at h;by_cases hc:val p<=2147483647/\VB (val p)=p
  ·rw[ax hc]at h;simp only[Option.some.injEq,Prod.mk.injEq]at h;obtain⟨rfl,rfl⟩:=h;obtain⟨q,b,pC,_,_,h3,h4⟩:=IJ 5 l p hp;refine⟨hc.1,?_,?_,?_,h4⟩
   ·rw[hc.2]
    conv=>rhs;rw[h3]
    simp
   ·rw[h3];simp
   ·rw[pC];simp
  ·rw[ab hc]at h;simp at h
theorem fi(l:List UInt8)(i:Nat)(b:UInt8)(hi:i<5)(hb:l[i]?=some b)(hlt:b.toNat<128)
 (h:∀j,j<i->∀c,l[j]?=some c->128<=c.toNat) :
 Zt l=if(b=0/\0<i)\/2147483647<val (l.take (i+1)) then none else some (val (l.take (i+1)),i+1):=by
 have hp:=BB 5 i l b hi hb hlt h
 have hil:i<l.length:=by
  rcases Nat.lt_or_ge i l.length with h|h
  ·exact h
  ·rw[List.getElem?_eq_none h]at hb;simp at hb
 have ht:l.take (i+1)=l.take i++[b]:=by
  rw[List.take_succ_eq_append_getElem hil]
  congr 1
  rw[List.getElem?_eq_getElem hil]at hb;simpa using hb
 have hlen:(l.take (i+1)).length=i+1:=by simp;omega
 unfold Zt;rw[hp];simp only;by_cases hv:2147483647<val (l.take (i+1))
 ·rw[ab (by omega),ax (Or.inr hv)]
 ·by_cases hs:b=0/\0<i
  ·rw[ax (Or.inl hs),ab];intro hc;have h2:=hc.2;rw[ht,hs.1]at h2;exact fe (l.take i) (by intro e;have:=congrArg List.length e;rw[List.length_take,List.length_nil]at this;omega) _ h2
  ·have hn:¬((b=0/\0<i)\/2147483647<val (l.take (i+1))):=by
    rintro(h|h)
    ·exact hs h
    ·exact hv h
   rw[ab hn,ax,hlen];refine⟨by omega,?_⟩;rw[ht];refine IL (l.take i) b hlt ?_ ?_
   ·intro c hc;obtain⟨j,hj,rfl⟩:=List.getElem_of_mem hc;have hj2:j<i:=by simp at hj;omega
    refine h j hj2 _ ?_;rw[List.getElem_take];exact List.getElem?_eq_getElem _
   ·by_cases hi0:i=0
    ·left;subst hi0;simp
    ·right;intro e;exact hs ⟨e,by omega⟩
theorem IS(l:List UInt8)(i:Nat)(b:UInt8)(hi:i<5)(hb:l[i]?=some b)(hlt:b.toNat<128)
 (h:∀j,j<i->∀c,l[j]?=some c->128<=c.toNat) :
 Zt l=if val (l.take (i+1))<=2147483647/\VB (val (l.take (i+1)))=l.take (i+1) then some (val (l.take (i+1)),i+1) else none:=by
 have hil:i<l.length:=by
  rcases Nat.lt_or_ge i l.length with h|h
  ·exact h
  ·rw[List.getElem?_eq_none h]at hb;simp at hb
 have hlen:(l.take (i+1)).length=i+1:=by simp;omega
 unfold Zt;rw[BB 5 i l b hi hb hlt h];simp only[hlen]
theorem BD(l:List UInt8)(h:∀j,j<5->∀b,l[j]?=some b->128<=b.toNat):Zt l=none:=by
 unfold Zt;rw[II 5 l h]
theorem XR(a b:List UInt8):(⟨a.toArray⟩:ByteArray)++⟨b.toArray⟩=⟨(a++b).toArray⟩:=by
 apply ByteArray.ext;simp
theorem aav(s:ByteArray):(⟨s.data.toList.toArray⟩:ByteArray)=s:=by
 apply ByteArray.ext;simp
theorem XE{a b X:Nat}(h:s.size<=X):(s.extract a b).size<=X:=by simp;omega
theorem Xo(a b:ByteArray):(a++b).data.toList=a.data.toList++b.data.toList:=by simp
theorem Xc(a b:ByteArray):(a++b).size=a.size+b.size:=by simp
theorem ZN{a b:ByteArray}(h:a.data.toList=b.data.toList):a=b:=by
 apply ByteArray.ext;exact Array.toList_inj.1 h
theorem ZX(s:ByteArray)(k:Nat)(h:k<s.size):s.data.toList[k]?=some s[k]:=by
 rw[List.getElem?_eq_getElem (by simpa using h)];rfl
theorem aaj(s:ByteArray)(k:Nat)(h:k<s.size):val (s.data.toList.take (k+1))=val (s.data.toList.take k)+s[k].toNat%128*2^(7*k):=by
 have hl:k<s.data.toList.length:=by simpa using h
 rw[List.take_succ_eq_append_getElem hl,cU,List.length_take,Nat.min_eq_left (by omega),Nat.pow_mul];rfl
def Xu(s:ByteArray):Nat:=match Zt s.data.toList with|none=>0|some x=>x.1
def size(s:ByteArray):Nat:=match Zt s.data.toList with|none=>0|some x=>x.2
def rest(s:ByteArray):ByteArray:=match Zt s.data.toList with|none=>⟨#[]⟩|some x=>s.extract x.2 s.size
def Yn(s:ByteArray):Bool:=(Zt s.data.toList).isSome
theorem qU(h:Zt s.data.toList=none):rest s=⟨#[]⟩/\Yn s=false:=by simp[rest,Yn,h]
theorem wG(h:Zt s.data.toList=some (n,k)):rest s=s.extract k s.size/\Yn s=true:=by simp[rest,Yn,h]
theorem XD(h:Zt s.data.toList=none):Xu s=0/\size s=0:=by simp[Xu,size,h]
theorem XZ(h:Zt s.data.toList=some (n,k)):Xu s=n/\size s=k:=by simp[Xu,size,h]
end Go.Proofs.YtbjbjbpgmojcbacGreatDoor.Vy
namespace Go.Proofs.YtbjbjbpgmojcbacGreatDoor
open Ar Bk Cd Dk Im Tk Tr Vy
open Tryz
variable{a b c d p t:ByteArray}{S:ByteArray->Prop}{L xs:List ByteArray}{f k:Nat}
namespace Im
abbrev B:=List UInt8
def Rd{α:Type}(p:ByteArray->Option (α×ByteArray))(enc:α->B)(ok:α->Prop):Prop:=∀s x r,p s=some (x,r)↔(ok x/\s.data.toList=enc x++r.data.toList)
theorem bA(s:ByteArray)(k:Nat):(s.extract k s.size).data.toList=s.data.toList.drop k:=by
 simp only[ByteArray.data_extract,Array.toList_extract];have:s.size=s.data.toList.length:=by simp
 rw[this];simp[List.extract,List.take_of_length_le]
theorem pG(s:ByteArray)(k:Nat):(s.extract 0 k).data.toList=s.data.toList.take k:=by
 simp[ByteArray.data_extract,Array.toList_extract,List.extract]
theorem Zf(s:ByteArray):s.size=s.data.toList.length:=by simp
def Xx(s:ByteArray):Option (Nat×ByteArray):=match Zt s.data.toList with
 |none=>none
 |some (n,k)=>some (n,s.extract k s.size)
theorem Yh:Rd Xx VB (λn=>n<=2147483647):=by
 intro s n r;unfold Xx;constructor
 ·intro h
  cases hf:Zt s.data.toList with
  |none=>rw[hf]at h;cases h
  |some x =>
   obtain⟨m,k⟩:=x;rw[hf]at h;simp only[Option.some.injEq,Prod.mk.injEq]at h;obtain⟨rfl,rfl⟩:=h;obtain⟨h1,h2,h3,_⟩:=WM hf;refine⟨h1,?_⟩;rw[bA,h2,List.take_append_drop]
 ·rintro⟨h1,h2⟩;have hf:=Ym n r.data.toList h1;rw[<-h2]at hf;rw[hf];simp only[Option.some.injEq,Prod.mk.injEq,true_and];apply ZN;rw[bA,h2];simp
def WY(m:Nat)(s:ByteArray):Option (Nat×ByteArray):=match Xx s with
 |none=>none
 |some (n,r)=>if n<=m then some (n,r) else none
theorem YQ(m:Nat):Rd (WY m) VB (λn=>n<=2147483647/\n<=m):=by
 intro s n r;have h:=Yh s n r;unfold WY;constructor
 ·intro h1
  cases hf:Xx s with
  |none=>rw[hf]at h1;cases h1
  |some x =>
   obtain⟨k,q⟩:=x;rw[hf]at h1;by_cases hm:k<=m
   ·simp only[ax hm,Option.some.injEq,Prod.mk.injEq]at h1;obtain⟨rfl,rfl⟩:=h1;exact⟨⟨(h.1 hf).1,hm⟩,(h.1 hf).2⟩
   ·simp only[ab hm]at h1;cases h1
 ·rintro⟨⟨h1,h2⟩,h3⟩;rw[h.2 ⟨h1,h3⟩];simp only[ax h2]
def tb(t:ByteArray):B:=VB t.size++t.data.toList
def bn(m:Nat)(s:ByteArray):Option (ByteArray×ByteArray):=match Xx s with
 |none=>none
 |some (n,r)=>if n<=m/\n<=r.size then some (r.extract 0 n,r.extract n r.size) else none
theorem ny(m:Nat):Rd (bn m) tb (λt=>t.size<=2147483647/\t.size<=m):=by
 intro s t r;unfold bn;constructor
 ·intro h1
  cases hf:Xx s with
  |none=>rw[hf]at h1;cases h1
  |some x =>
   obtain⟨k,q⟩:=x;rw[hf]at h1;have h:=(Yh s k q).1 hf;by_cases hm:k<=m/\k<=q.size
   ·simp only[ax hm,Option.some.injEq,Prod.mk.injEq]at h1;obtain⟨rfl,rfl⟩:=h1;have e:(q.extract 0 k).size=k:=by rw[Zf,pG,List.length_take,<-Zf];omega
    refine⟨⟨by rw[e];exact h.1,by rw[e];exact hm.1⟩,?_⟩;unfold tb;rw[e,pG,bA,h.2,List.append_assoc,List.take_append_drop]
   ·simp only[ab hm]at h1;cases h1
 ·rintro⟨⟨h1,h2⟩,h3⟩;unfold tb at h3
  have hq:∃q:ByteArray,q.data.toList=t.data.toList++r.data.toList:=⟨⟨(t.data.toList++r.data.toList).toArray⟩,by simp⟩
  obtain⟨q,hq⟩:=hq;rw[List.append_assoc,<-hq]at h3;rw[(Yh s t.size q).2 ⟨h1,h3⟩];have hz:t.size<=q.size:=by rw[Zf q,hq,List.length_append,<-Zf];omega
  simp only[ax (And.intro h2 hz),Option.some.injEq,Prod.mk.injEq];have el:=Zf t;constructor
  ·apply ZN;rw[pG,hq,el];simp
  ·apply ZN;rw[bA,hq,el];simp
def aaJ{α:Type}(enc:α->B)(l:List α):B:=l.flatMap enc
theorem ug{α:Type}(enc:α->B)(l:List α)(x:α):aaJ enc (l++[x])=aaJ enc l++enc x:=by simp[aaJ]
def eG{α:Type}(p:ByteArray->Option (α×ByteArray)):Nat->ByteArray->Option (List α×ByteArray)
 |0,s=>some ([],s)
 |k+1,s=>match eG p k s with
  |none=>none
  |some (l,r)=>match p r with
   |none=>none
   |some (x,q)=>some (l++[x],q)
theorem l7{α:Type}{p:ByteArray->Option (α×ByteArray)}{enc:α->B}{ok:α->Prop}(hp:Rd p enc ok):∀k,Rd (eG p k) (aaJ enc) (λl=>l.length=k/\∀x∈l,ok x)
 |0=>by
  intro s l r;rw[eG];simp only[Option.some.injEq,Prod.mk.injEq];constructor
  ·rintro⟨rfl,rfl⟩;exact⟨⟨rfl,by simp⟩,by simp[aaJ]⟩
  ·rintro⟨⟨h1,_⟩,h2⟩;obtain rfl:=lZ.1 h1;exact⟨rfl,ZN (by simpa[aaJ]using h2)⟩
 |k+1=>by
  intro s l r;have ih:=l7 hp k;rw[eG];constructor
  ·intro h
   cases h1:eG p k s with
   |none=>rw[h1]at h;cases h
   |some y =>
    obtain⟨l0,r0⟩:=y;rw[h1]at h;simp only at h
    cases h2:p r0 with
    |none=>rw[h2]at h;cases h
    |some z =>
     obtain⟨x,q⟩:=z;rw[h2]at h;simp only[Option.some.injEq,Prod.mk.injEq]at h;obtain⟨rfl,rfl⟩:=h;obtain⟨⟨a1,a2⟩,a3⟩:=(ih s l0 r0).1 h1;obtain⟨b1,b2⟩:=(hp r0 x q).1 h2;refine⟨⟨by simp[a1],?_⟩,?_⟩
     ·intro y hy;rcases List.mem_append.1 hy with hy|hy
      ·exact a2 y hy
      ·rw[List.mem_singleton.1 hy];exact b1
     ·rw[ug,a3,b2,List.append_assoc]
  ·rintro⟨⟨h1,h2⟩,h3⟩;have hne:l ≠ []:=by intro e;rw[e]at h1;simp at h1
   obtain⟨l0,x,rfl⟩:∃l0 x,l=l0++[x]:=⟨l.dropLast,l.getLast hne,(List.dropLast_concat_getLast hne).symm⟩
   rw[ug,List.append_assoc]at h3
   obtain⟨r0,hr0⟩:∃q:ByteArray,q.data.toList=enc x++r.data.toList:=⟨⟨(enc x++r.data.toList).toArray⟩,by simp⟩
   rw[<-hr0]at h3;rw[(ih s l0 r0).2 ⟨⟨by simpa using h1,λy hy=>h2 y (List.mem_append_left _ hy)⟩,h3⟩];simp only;rw[(hp r0 x r).2 ⟨h2 x (by simp),hr0⟩]
theorem uh{α β γ:Type}{p:ByteArray->Option (α×ByteArray)}{q:ByteArray->Option (β×ByteArray)}{e1:α->B}{e2:β->B}{o1:α->Prop}{o2:β->Prop}(hp:Rd p e1 o1)(hq:Rd q e2 o2)
 (f:γ->α) (g:γ->β) (mk:α->β->γ) (h1:∀a b,f (mk a b)=a) (h2:∀a b,g (mk a b)=b) (h3:∀c,mk (f c) (g c)=c) :
 Rd (λs=>match p s with|none=>none|some (a,r)=>match q r with|none=>none|some (b,r2)=>some (mk a b,r2)) (λc=>e1 (f c)++e2 (g c)) (λc=>o1 (f c)/\o2 (g c)):=by
 intro s c r;constructor
 ·intro h;simp only at h
  cases ha:p s with
  |none=>rw[ha]at h;cases h
  |some y =>
   obtain⟨a,r0⟩:=y;rw[ha]at h;simp only at h
   cases hb:q r0 with
   |none=>rw[hb]at h;cases h
   |some z =>
    obtain⟨b,r1⟩:=z;rw[hb]at h;simp only[Option.some.injEq,Prod.mk.injEq]at h;obtain⟨rfl,rfl⟩:=h;obtain⟨a1,a2⟩:=(hp s a r0).1 ha;obtain⟨b1,b2⟩:=(hq r0 b r1).1 hb;simp only[h1,h2];exact⟨⟨a1,b1⟩,by rw[a2,b2,List.append_assoc]⟩
 ·rintro⟨⟨a1,b1⟩,h⟩
  obtain⟨r0,hr0⟩:∃q:ByteArray,q.data.toList=e2 (g c)++r.data.toList:=⟨⟨(e2 (g c)++r.data.toList).toArray⟩,by simp⟩
  rw[List.append_assoc,<-hr0]at h;simp only;rw[(hp s (f c) r0).2 ⟨a1,h⟩];simp only;rw[(hq r0 (g c) r).2 ⟨b1,hr0⟩];simp only[h3]
end Im
namespace Tr
def VA(xs:List ByteArray)(i:Nat):ByteArray:=xs.getD i ⟨#[]⟩
def dM(p t:ByteArray):Nat->Bool
 |0=>false
 |k+1=>dM p t k||decide (k+p.size<=t.size/\t.extract k (k+p.size)=p)
def st(p t:ByteArray):Bool:=dM p t (t.size+1)
theorem IT(h:dM p t k=true):∀j,dM p t (k+j)=true:=by
 intro j
 induction j with
 |zero=>exact h
 |succ j ih=>rw[<-Nat.add_assoc,dM,ih,Bool.true_or]
theorem wJ(hk:t.size<k+p.size):∀j,dM p t (k+j)=dM p t k:=by
 intro j
 induction j with
 |zero=>rfl
 |succ j ih=>rw[<-Nat.add_assoc,dM,ih,decide_eq_false (by omega),Bool.or_false]
def iJ(xs:List ByteArray)(p:ByteArray):Nat->Nat
 |0=>0
 |k+1=>iJ xs p k+(if st p (VA xs k)=true then 1 else 0)
theorem Y6(xs:List ByteArray)(p:ByteArray):∀k,iJ xs p k<=k:=by
 intro k
 induction k with
 |zero=>exact nl _
 |succ k ih=>rw[iJ];split<;>omega
def ct(xs:List ByteArray)(p:ByteArray):Nat:=iJ xs p xs.length
theorem uj :dM p t k=true↔∃i,i<k/\i+p.size<=t.size/\t.extract i (i+p.size)=p:=by
 induction k with
 |zero=>simp[dM]
 |succ k ih =>
  rw[dM,Bool.or_eq_true,ih,decide_eq_true_iff];constructor
  ·rintro(⟨i,h1,h2⟩|h)
   ·exact⟨i,by omega,h2⟩
   ·exact⟨k,by omega,h⟩
  ·rintro⟨i,h1,h2⟩;by_cases h:i=k
   ·subst h;exact .inr h2
   ·exact .inl ⟨i,by omega,h2⟩
theorem oo :st p t=true↔∃i,i+p.size<=t.size/\t.extract i (i+p.size)=p:=by
 rw[st,uj];constructor
 ·rintro⟨i,_,h⟩;exact⟨i,h⟩
 ·rintro⟨i,h⟩;exact⟨i,by omega,h⟩
theorem BG(h:st p d=true):st p (b++d)=true:=by
 obtain⟨i,h1,h2⟩:=oo.1 h;refine oo.2 ⟨b.size+i,by rw[ByteArray.size_append];omega,?_⟩;rw[Nat.add_assoc,ByteArray.extract_append_size_add];exact h2
theorem IU(b d:ByteArray):st b (b++d)=true :=
 oo.2 ⟨0,by rw[ByteArray.size_append];omega,ByteArray.extract_append_eq_left (by omega)⟩
theorem BH{xs:List ByteArray}{p:ByteArray}:∀{k:Nat},1<=iJ xs p k->∃i,i<k/\st p (VA xs i)=true
 |0,h=>by simp[iJ]at h
 |k+1,h=>by
  rw[iJ]at h;by_cases hs:st p (VA xs k)=true
  ·exact⟨k,by omega,hs⟩
  ·rw[ab hs]at h;obtain⟨i,h1,h2⟩:=BH (k:=k) (by omega);exact⟨i,by omega,h2⟩
def VI(a b:ByteArray):Bool:=Op.bytesLess a.toList b.toList
theorem qV:∀(x y:List UInt8),Op.bytesLess x y=decide (x<y)
 |[],[]=>by simp[Op.bytesLess]
 |_ :: _,[]=>by simp[Op.bytesLess]
 |[],_ :: _=>by simp[Op.bytesLess]
 |a :: x,b :: y=>by
  rw[Op.bytesLess,qV x y];simp only[List.cons_lt_cons_iff];by_cases h1:a<b<;>by_cases h2:a=b<;>by_cases h3:x<y<;>simp[h1,h2,h3]
theorem uk(h:a.toList=b.toList):a=b:=by
 rw[ByteArray.toList_eq,ByteArray.toList_eq]at h
 cases a;cases b
 simpa using h
theorem jD(a:ByteArray):VI a a=false:=by rw[VI,qV];exact decide_eq_false (List.lt_irrefl _)
theorem Yx(h1:VI a b=true)(h2:VI b c=true):VI a c=true:=by
 rw[VI,qV,decide_eq_true_iff]at*;exact List.lt_trans h1 h2
theorem Y1(h1:VI a b=false)(h2:VI b a=false):a=b:=by
 rw[VI,qV,decide_eq_false_iff_not]at*;exact uk (List.le_antisymm h2 h1)
theorem BI:∀(x y:List UInt8),decide (Lib.compareBytes x y<0)=decide (x<y)
 |[],[]=>by simp[Lib.compareBytes]
 |_ :: _,[]=>by simp[Lib.compareBytes]
 |[],_ :: _=>by simp[Lib.compareBytes]
 |a :: x,b :: y=>by
  rw[Lib.compareBytes];simp only[List.cons_lt_cons_iff];have ih:=BI x y;by_cases h1:a<b
  ·simp[h1]
  ·by_cases h2:b<a
   ·have h3:a≠b:=by rintro rfl;exact h1 h2
    simp[h1,h2,h3]
   ·have h3:=UInt8.le_antisymm (UInt8.not_lt.1 h2) (UInt8.not_lt.1 h1);subst h3;simpa[List.lt_irrefl]using ih
theorem BJ(a b:ByteArray):decide (Lib.compareBytes a.data.toList b.data.toList<0)=VI a b:=by
 rw[BI,VI,qV,ByteArray.toList_eq,ByteArray.toList_eq]
def lt(xs:List ByteArray)(a b:ByteArray):Bool:=decide (ct xs b<ct xs a)||(ct xs a==ct xs b&&VI a b)
theorem BK(xs:List ByteArray)(a:ByteArray):lt xs a a=false:=by simp[lt,jD]
theorem lt_trans(h1:lt xs a b=true)(h2:lt xs b c=true):lt xs a c=true:=by
 simp only[lt,Bool.or_eq_true,decide_eq_true_iff,Bool.and_eq_true,beq_iff_eq]at*;rcases h1 with h1|⟨e1,h1⟩<;>rcases h2 with h2|⟨e2,h2⟩
 ·left;omega
 ·left;omega
 ·left;omega
 ·right;exact⟨by omega,Yx h1 h2⟩
theorem BL(h1:lt xs a b=true):lt xs b a=false:=by
 cases h:lt xs b a with
 |false=>rfl
 |true=>have:=lt_trans h1 h;rw[BK]at this;cases this
theorem um(h1:lt xs a b=false)(h2:lt xs b a=false):a=b:=by
 simp only[lt,Bool.or_eq_false_iff,decide_eq_false_iff_not,Bool.and_eq_false_iff]at h1 h2;have e:ct xs a=ct xs b:=by omega
 refine Y1 ?_ ?_
 ·rcases h1.2 with h|h
  ·simp[e]at h
  ·exact h
 ·rcases h2.2 with h|h
  ·simp[e]at h
  ·exact h
theorem BM(h1:lt xs a b=false)(h2:lt xs b c=false):lt xs a c=false:=by
 cases h:lt xs a c with
 |false=>rfl
 |true =>
  cases hb:lt xs b a with
  |true=>rw[lt_trans hb h]at h2;cases h2
  |false=>rw[um h1 hb,h2]at h;cases h
def Y3(t:ByteArray)(k:Nat):ByteArray:=t.extract k (k+4)
def bs(xs:List ByteArray)(d:ByteArray)(a:ByteArray×Nat)(p:ByteArray):ByteArray×Nat :=
 if(decide (a.2<ct xs p)||(ct xs p==a.2&&decide (1<ct xs p)&&VI p a.1)) && !st p d then(p,ct xs p) else a
def gX(xs:List ByteArray)(d t:ByteArray)(a:ByteArray×Nat):Nat->ByteArray×Nat
 |0=>a
 |k+1=>bs xs d (gX xs d t a k) (Y3 t k)
def pI(xs:List ByteArray)(d:ByteArray):Nat->ByteArray×Nat
 |0=>(⟨#[]⟩,1)
 |i+1=>gX xs d (VA xs i) (pI xs d i) ((VA xs i).size-3)
def best(xs:List ByteArray)(d:ByteArray):ByteArray:=(pI xs d xs.length).1
def gY(xs:List ByteArray)(size:Nat):Nat->ByteArray->ByteArray
 |0,d=>d
 |f+1,d=>if d.size+4<=size then(if(best xs d).size=0 then d else gY xs size f (best xs d++d)) else d
def Wq(xs:List ByteArray)(size:Nat):ByteArray:=gY xs size 65 ⟨#[]⟩
def ok(xs:List ByteArray)(d p:ByteArray):Prop:=2<=ct xs p/\st p d=false
def Inv(xs:List ByteArray)(d:ByteArray)(S:ByteArray->Prop)(a:ByteArray×Nat):Prop :=
 (a=(⟨#[]⟩,1)/\∀p,S p->¬ok xs d p)\/(S a.1/\ok xs d a.1/\a.2=ct xs a.1/\∀p,S p->ok xs d p->p=a.1\/lt xs a.1 p=true)
theorem Inv.step{a:ByteArray×Nat}(h:Inv xs d S a)(p:ByteArray):Inv xs d (λq=>S q\/q=p) (bs xs d a p):=by
 unfold bs;rcases h with⟨rfl,h⟩|⟨h1,h2,h3,h4⟩
 ·split
  ·rename_i hc
   simp only[Bool.and_eq_true,Bool.or_eq_true,decide_eq_true_iff,Bool.not_eq_true',beq_iff_eq]at hc
   right
   refine⟨.inr rfl,⟨by show 2<=ct xs p;omega,hc.2⟩,rfl,?_⟩;rintro q (hq|hq) hk
   ·exact absurd hk (h q hq)
   ·exact .inl hq
  ·rename_i hc
   left
   refine⟨rfl,?_⟩;rintro q (hq|rfl) ⟨k1,k2⟩
   ·exact h q hq ⟨k1,k2⟩
   ·apply hc;simp[k2];left;omega
 ·split
  ·rename_i hc
   simp only[Bool.and_eq_true,Bool.or_eq_true,decide_eq_true_iff,Bool.not_eq_true',beq_iff_eq]at hc
   right
   have hlt:lt xs p a.1=true:=by
    simp only[lt,Bool.or_eq_true,decide_eq_true_iff,Bool.and_eq_true,beq_iff_eq];rcases hc.1 with hc|hc
    ·left;omega
    ·right;exact⟨by omega,hc.2⟩
   refine⟨.inr rfl,⟨by have:=h2.1;show 2<=ct xs p;omega,hc.2⟩,rfl,?_⟩;rintro q (hq|hq) hk
   ·right
    rcases h4 q hq hk with rfl|h5
    ·exact hlt
    ·exact lt_trans hlt h5
   ·exact .inl hq
  ·rename_i hc
   right
   refine⟨.inl h1,h2,h3,?_⟩;rintro q (hq|rfl) hk
   ·exact h4 q hq hk
   ·cases h5:lt xs a.1 q with
    |true=>exact .inr rfl
    |false =>
     left
     refine um ?_ h5
     cases h6:lt xs q a.1 with
     |false=>rfl
     |true =>
      exfalso;apply hc
      simp only[lt,Bool.or_eq_true,decide_eq_true_iff,Bool.and_eq_true,beq_iff_eq]at h6;have:=hk.1;rcases h6 with h6|h6
      ·simp[hk.2];left;omega
      ·simp[hk.2];right;exact⟨⟨by omega,by omega⟩,h6.2⟩
theorem Inv.mono{T:ByteArray->Prop}{a:ByteArray×Nat}(h:Inv xs d S a)(hST:∀p,S p↔T p):Inv xs d T a:=by
 rw[show S=T from funext λp=>propext (hST p)]at h;exact h
theorem BN{xs:List ByteArray}{d t:ByteArray}{S:ByteArray->Prop}{a:ByteArray×Nat}(h:Inv xs d S a):∀k,Inv xs d (λp=>S p\/∃i,i<k/\p=Y3 t i) (gX xs d t a k)
 |0=>h.mono λp=>by simp
 |k+1=>((BN h k).step (Y3 t k)).mono λp=>by
  constructor
  ·rintro((h|⟨i,h1,h2⟩)|rfl)
   ·exact .inl h
   ·exact .inr ⟨i,by omega,h2⟩
   ·exact .inr ⟨k,by omega,rfl⟩
  ·rintro(h|⟨i,h1,h2⟩)
   ·exact .inl (.inl h)
   ·by_cases e:i=k
    ·subst e;exact .inr h2
    ·exact .inl (.inr ⟨i,by omega,h2⟩)
theorem BO{xs:List ByteArray}{d:ByteArray}:∀k,Inv xs d (λp=>∃j,j<k/\∃i,i<(VA xs j).size-3/\p=Y3 (VA xs j) i) (pI xs d k)
 |0=>.inl ⟨rfl,by rintro p ⟨j,h,_⟩;omega⟩
 |k+1=>(BN (BO k) _).mono λp=>by
  constructor
  ·rintro(⟨j,h1,h2⟩|h)
   ·exact⟨j,by omega,h2⟩
   ·exact⟨k,by omega,h⟩
  ·rintro⟨j,h1,h2⟩;by_cases e:j=k
   ·subst e;exact .inr h2
   ·exact .inl ⟨j,by omega,h2⟩
theorem qW{i:Nat}(h:i<t.size-3):(Y3 t i).size=4:=by rw[Y3,ByteArray.size_extract];omega
theorem seen(h4:p.size=4)(h:1<=ct xs p):∃j,j<xs.length/\∃i,i<(VA xs j).size-3/\p=Y3 (VA xs j) i:=by
 obtain⟨j,h1,h2⟩:=BH h;obtain⟨i,h3,h5⟩:=oo.1 h2;rw[h4]at h3 h5;exact⟨j,h1,i,by omega,h5.symm⟩
theorem cM(xs:List ByteArray)(d:ByteArray) :
 ((best xs d)=⟨#[]⟩/\∀p,p.size=4->¬ok xs d p)\/((best xs d).size=4/\ok xs d (best xs d)/\∀p,p.size=4->ok xs d p->p=best xs d\/lt xs (best xs d) p=true):=by
 rcases BO (xs:=xs) (d:=d) xs.length with⟨h1,h2⟩|⟨⟨j,h1,i,h2,h3⟩,h4,h5,h6⟩
 ·left
  refine⟨by rw[best,h1],λp hp hk=>h2 p (seen hp (by have:=hk.1;omega)) hk⟩
 ·right
  refine⟨by rw[best,h3];exact qW h2,h4,λp hp hk=>h6 p (seen hp (by have:=hk.1;omega)) hk⟩
theorem IV(h:∀p,p.size=4->¬ok xs d p):(best xs d).size=0:=by
 rcases cM xs d with⟨h1,_⟩|⟨h1,h2,_⟩
 ·rw[h1];rfl
 ·exact absurd h2 (h _ h1)
theorem IW(h4:b.size=4)(hb:ok xs d b)(h:∀p,p.size=4->ok xs d p->p=b\/lt xs b p=true):best xs d=b:=by
 rcases cM xs d with⟨_,h2⟩|⟨h1,h2,h3⟩
 ·exact absurd hb (h2 b h4)
 ·rcases h _ h1 h2 with h5|h5
  ·exact h5
  ·rcases h3 _ h4 hb with h6|h6
   ·exact h6.symm
   ·rw[BL h5]at h6;cases h6
def Rk(xs L:List ByteArray):Prop:=L.Pairwise (λa b=>lt xs a b=true)/\∀p,p∈L↔p.size=4/\2<=ct xs p
theorem IX(h:Rk xs L){i:Nat}(hi:i<L.length)(hs:st L[i] d=false)(ha:∀k,(hk:k<i)->st (L[k]'(by omega)) d=true):best xs d=L[i]:=by
 have hm:=(h.2 L[i]).1 (gM hi);refine IW hm.1 ⟨hm.2,hs⟩ λp hp hk=>?_
 obtain⟨k,hk1,rfl⟩:=List.mem_iff_getElem.1 ((h.2 p).2 ⟨hp,hk.1⟩);by_cases e1:k<i
 ·have:=ha k e1;rw[hk.2]at this;cases this
 ·by_cases e2:k=i
  ·subst e2;exact .inl rfl
  ·exact .inr (List.pairwise_iff_getElem.1 h.1 i k hi hk1 (by omega))
theorem IY(h:Rk xs L)(ha:∀k,(hk:k<L.length)->st L[k] d=true):(best xs d).size=0:=by
 refine IV λp hp hk=>?_
 obtain⟨k,hk1,rfl⟩:=List.mem_iff_getElem.1 ((h.2 p).2 ⟨hp,hk.1⟩);have:=ha k hk1;rw[hk.2]at this;cases this
structure Good(xs:List ByteArray)(size:Nat)(d:ByteArray):Prop where
 four:d.size%4=0
 most:d.size<=size
 twice:∀x,x<d.size/4->2<=ct xs (d.extract (4*x) (4*x+4))
 apart:∀x y,x<d.size/4->y<d.size/4->x≠y->d.extract (4*x) (4*x+4)≠d.extract (4*y) (4*y+4)
theorem wM(hb:b.size=4):(b++d).extract (4*0) (4*0+4)=b:=ByteArray.extract_append_eq_left (by omega)
theorem qX(hb:b.size=4)(x:Nat):(b++d).extract (4*(x+1)) (4*(x+1)+4)=d.extract (4*x) (4*x+4):=by
 rw[show 4*(x+1)+4=b.size+(4*x+4) by omega,show 4*(x+1)=b.size+4*x by omega,ByteArray.extract_append_size_add]
theorem Good.step{size:Nat}(h:Good xs size d)(hb:b.size=4)(hk:ok xs d b)(hs:d.size+4<=size):Good xs size (b++d):=by
 have e:(b++d).size=d.size+4:=by rw[ByteArray.size_append];omega
 have h0:=h.four;have hd:(d.size+4)/4=d.size/4+1:=by omega
 have hne:∀x,x<d.size/4->b≠d.extract (4*x) (4*x+4):=by
  intro x hx he;have:st b d=true:=oo.2 ⟨4*x,by omega,by rw[hb];exact he.symm⟩;rw[hk.2]at this;cases this
 refine⟨by omega,by omega,?_,?_⟩
 ·rw[e,hd];intro x hx
  cases x with
  |zero=>rw[wM hb];exact hk.1
  |succ x=>rw[qX hb];exact h.twice x (by omega)
 ·rw[e,hd];intro x y hx hy hxy
  cases x with
  |zero =>
   cases y with
   |zero=>omega
   |succ y=>rw[wM hb,qX hb];exact hne y (by omega)
  |succ x =>
   cases y with
   |zero=>rw[wM hb,qX hb];exact(hne x (by omega)).symm
   |succ y=>rw[qX hb,qX hb];exact h.apart x y (by omega) (by omega) (by omega)
theorem BP{xs:List ByteArray}{size:Nat}:∀f {d:ByteArray},Good xs size d->Good xs size (gY xs size f d)
 |0,d,h=>h
 |f+1,d,h=>by
  rw[gY];split
  ·rename_i hs
   split
   ·exact h
   ·rename_i hz
    rcases cM xs d with⟨h1,_⟩|⟨h1,h2,_⟩
    ·rw[h1]at hz;exact absurd rfl hz
    ·exact BP f (h.step h1 h2 hs)
  ·exact h
theorem Z7(xs:List ByteArray)(size:Nat):Good xs size (Wq xs size) :=
 BP 65 ⟨rfl,Nat.zero_le _,λx hx=>absurd hx (by show ¬x<0/4;omega),λx _ hx=>absurd hx (by show ¬x<0/4;omega)⟩
theorem BQ{size:Nat}(hs:d.size+4<=size)(hb:(best xs d).size=4):gY xs size (f+1) d=gY xs size f (best xs d++d):=by
 rw[gY,ax hs,ab (by omega)]
theorem wQ{size:Nat}(hb:(best xs d).size=0):gY xs size f d=d:=by
 cases f with
 |zero=>rfl
 |succ f=>rw[gY,ax hb];split<;>rfl
theorem BR{size:Nat}(hs:size<d.size+4):gY xs size f d=d:=by
 cases f with
 |zero=>rfl
 |succ f=>rw[gY,ab (by omega)]
end Tr
section
variable {P:Program} {ops:Array Oper} {Q:Exit->Act->World->Prop} {S:World->Prop} {o:Oper} {listed:Array Bool} {a:Act} {w:World}
theorem aE(i fuel:Nat)(v:Value)(hi:ops[i]?=some o)(hy:∀w,S w->(execOp a.eval o).run P w=.ok (.value v) w)(hS:S w)
 (h:wpAnyH P .any ops Q S fuel (listed.setIfInBounds i true) (a.put o.dst v) w) (hb:(Region.noSelect ops&&Region.free .any ops listed i&&(Region.ready .any ops listed).contains i)=true:=by kernel_rfl)
 (hQ:∀c a w,Q (.panic c) (a.put o.dst v) w->Q (.panic c) a w:=by exact λ_ _ _ h=>h) (hw:Region.wanted o (yielded ops a.tmps)=true:=by rfl):wpAnyH P .any ops Q S (fuel+1) listed a w:=by
 simp only[Bool.and_eq_true]at hb;exact wK hi hb.1.1 hb.1.2 hb.2 hQ (.inl ⟨hw,hy⟩) hS h
theorem aR(i fuel:Nat)(ho:ops[i]?=some o)
 (h:∀K:Act->World->Prop,Shut (∀a w,S w->(S w->wpAnyH P .any ops Q S fuel (listed.setIfInBounds i true) a w)->K a w)->if Region.wanted o (yielded ops a.tmps)=true then Oper.wp P o a w K Q else K (a.put o.dst undef) w) (hr:Region.ready .any ops listed=[i]:=by kernel_rfl) :
 wpAnyH P .any ops Q S (fuel+1) listed a w:=wY hr (by simp) (rC ho h rN)
end
open Go.RowKit
theorem l8{B:Nat}{a b c:World}(h1:Below B a b)(h2:ae b c)(hB:B<=a.heap.size):Below B a c:=h1.trans (h2.mono (Nat.le_trans hB h1.size))
end Go.Proofs.YtbjbjbpgmojcbacGreatDoor
namespace Go.Proofs
open YtbjbjbpgmojcbacGreatDoor (sR)
open Go.Shelf
def Tryz.laysM316_ren:Go.Shelf.Ren:=⟨fun|316=>110|n=>n,fun|9=>9|3=>3|4=>4|37=>29|0=>0|127=>160|5=>5|n=>n,fun|n=>n⟩
theorem Tryz.laysM316:Go.Proofs.LaysM.n316 Tryz.prog Tryz.laysM316_ren:={
 mixed:=by kernel_rfl
 f316:=sR Tryz.func110
 t0:=Tryz.underlying0
 a0:=Tryz.isAgg0
 z0:=Tryz.sizeOf0
 v0:=Tryz.zeroValue0
 t3:=Tryz.underlying3
 a3:=Tryz.isAgg3
 z3:=Tryz.sizeOf3
 v3:=Tryz.zeroValue3
 t4:=Tryz.underlying4
 a4:=Tryz.isAgg4
 z4:=Tryz.sizeOf4
 v4:=Tryz.zeroValue4
 t9:=Tryz.underlying9
 a9:=Tryz.isAgg9
 z9:=Tryz.sizeOf9
 v9:=Tryz.zeroValue9
 t37:=Tryz.underlying29
 a37:=Tryz.isAgg29
 z37:=Tryz.sizeOf29
 v37:=Tryz.zeroValue29
 t127:=Tryz.underlying160
 a127:=Tryz.isAgg160
 z127:=Tryz.sizeOf160
 v127:=Tryz.zeroValue160
 t5:=Tryz.underlying5
 a5:=Tryz.isAgg5
 z5:=Tryz.sizeOf5
 v5:=Tryz.zeroValue5
 i0:=by kernel_rfl
 i3:=by kernel_rfl
 i4:=by kernel_rfl
 i5:=by kernel_rfl
 i9:=by kernel_rfl
 i37:=by kernel_rfl
 i127:=by kernel_rfl }
open Go.RowKit in
theorem Tryz.stringslite_Clone(s:ByteArray)(w:World)(hlim:s.size<=281474976710656) :
 Calls Tryz.prog 110 #[.string s] w λe w'=>e=.returned (.string s)/\Below w.heap.size w w':=Any.stringslite_Clone Tryz.laysM316 s w hlim
end Go.Proofs
namespace Go.Proofs.YtbjbjbpgmojcbacGreatDoor
open Ar Bk Cd Dk Im Tk Tr Vy
open Tryz
variable{n:Nat}{v:Value}{w:World}
open Go.RowKit
theorem ZY(s:ByteArray)(w:World)(h:s.size<=281474976710656) :
 CB 73 #[.string s] w (.string s):=by
 go_enter func73,ntmps73
 go_wp2_with (go_at_call 110;refine(Tryz.stringslite_Clone _ _ h).mono ?_;rintro e w' ⟨rfl,hb⟩)
 go_ret
 exact⟨rfl,hb⟩
theorem BS{W w1:World}(hb:ae W w1):∀b o,b<W.heap.size->w1.cell? ⟨b,o,none⟩=W.cell? ⟨b,o,none⟩ :=
 λb o h=>hb.cell (p:=⟨b,o,none⟩) h
theorem qY(s:ByteArray)(w:World)(hs:s.size<=maxLen) :
 Calls prog 231 #[.string s] w λe w'=>e=.returned (.tuple #[.int .i64 (Xu s:Nat),.int .i64 (Vy.size s:Nat)])/\w'=w:=by
 have hs2:(s.size:Int)<=9223372036854775807:=by unfold maxLen at hs;omega
 clear hs
 obtain⟨lim,hlim⟩:∃lim:Nat,min (s.size:Int) 5=(lim:Int):=⟨min s.size 5,by omega⟩
 have hl1:lim<=s.size:=by omega
 have hl2:lim<=5:=by omega
 have hl3:Hid (lim=s.size\/lim=5):=by show _\/_;omega
 go_enter func231,ntmps231
 go_wp2
 clear hlim;go_loop [4,9] (λn i=>∃k:Nat,k<=lim/\i=.int .i64 k/\n=.int .u64 (Vy.val (s.data.toList.take k):Nat)/\Hid (∀j,j<k->∀b,s.data.toList[j]?=some b->128<=b.toNat)) (λ_ i=>5-(intOf i).toNat)
 case atStart=>exact⟨0,by omega,rfl,rfl,λj h=>by omega⟩
 case round =>
  obtain⟨k,hk,rfl,rfl,hall⟩:=hrel;have hvl:=aai (s.data.toList.take k);generalize hm:Vy.val (s.data.toList.take k)=m at*;have Hm:=Za hm;clear hm;by_cases hlt:k<lim
  ·have hmb:(m:Int)<268435456:=by
    have h3:(s.data.toList.take k).length<=4:=by rw[List.length_take];omega
    have h4:128^(s.data.toList.take k).length<=128^4:=Nat.pow_le_pow_right (by omega) h3;omega
   clear hvl;have h1:k<s.size:=by omega
   obtain⟨x,hx⟩:∃x:Int,(s[k].toNat:Int)=x:=⟨_,rfl⟩
   have hx0:0<=x:=by omega
   have hx1:x<=255:=by have:=s[k].toNat_lt;omega
   have hp:(2:Int)^(7*k)<=2^28:=by
    have:k=0\/k=1\/k=2\/k=3\/k=4:=by omega
    rcases this with rfl|rfl|rfl|rfl|rfl<;>decide
   have hp0:(0:Int)<2^(7*k):=Int.pow_pos (by omega)
   obtain⟨y,hy⟩:∃y:Int,x%128*2^(7*k)=y:=⟨_,rfl⟩
   have hy0:0<=y:=by rw[<-hy];exact Int.mul_nonneg (by omega) (by omega)
   have hy1:y<=34359738368:=by
    rw[<-hy];have h9:x%128*2^(7*k)<=128*2^28:=Int.mul_le_mul (by omega) hp (by omega) (by omega);have h8:(128*2^28:Int)=34359738368:=by decide
    omega
   clear hp hp0
   have Hv:Hid ((Vy.val (s.data.toList.take (k+1)):Int)=(m:Int)+y):=by
    show(Vy.val (s.data.toList.take (k+1)):Int)=(m:Int)+y;rw[aaj s k h1,Hm.out,<-hy,<-hx];simp
   have Hx:=Za hx;by_cases hb:128<=x
   ·go_wp2
    go_round
    case rel =>
     refine⟨k+1,by omega,by go_num,by rw[<-Hv.out],?_⟩;show ∀j,_;intro j hj b hjb;by_cases hjk:j=k
     ·subst hjk;rw[ZX s j h1]at hjb;simp only[Option.some.injEq]at hjb;subst hjb;have:=Hx.out;omega
     ·exact hall.out j (by omega) b hjb
    case measure=>simp[intOf];omega
   ·have hf:=Vy.fi s.data.toList k s[k] (by omega) (ZX s k h1) (by omega) hall.out;have Hf:=Za hf;clear hf;by_cases hA:x=0/\0<k
    ·have hk':(0:Int)<(k:Int):=by omega
     have HF:Hid (Xu s=0/\Vy.size s=0):=by
      refine XD ?_;rw[Hf.out,ax]
      left
      exact⟨by apply UInt8.toNat_inj.1;have:=Hx.out;simp;omega,hA.2⟩
     obtain⟨rfl,hA2⟩:=hA;obtain rfl:y=0:=by rw[<-hy];simp
     have hd:decide (0<k)=true:=by simpa using hA2
     clear hy;go_wp2
     go_ret2
     exact⟨by rw[HF.out.1,HF.out.2];rfl,rfl⟩
    ·by_cases hbig:2147483647<(m:Int)+y
     ·have HF:Hid (Xu s=0/\Vy.size s=0):=by
       refine XD ?_;rw[Hf.out,ax]
       right
       have:=Hv.out;omega
      by_cases hz:x=0
      ·exfalso
       obtain rfl:k=0:=by omega
       have h0:=Hm.out;simp[Vy.val]at h0;subst hz;simp at hy;omega
      ·have hz':(x==0)=false:=by simp[hz]
       clear hA hz;go_wp2
       go_ret2
       exact⟨by rw[HF.out.1,HF.out.2];rfl,rfl⟩
     ·have HF:Hid ((Xu s:Int)=(m:Int)+y/\Vy.size s=k+1):=by
       have h7:Zt s.data.toList=some (Vy.val (s.data.toList.take (k+1)),k+1):=by
        rw[Hf.out,ab];rintro(h|h)
        ·refine hA ⟨?_,h.2⟩;have:=Hx.out;rw[h.1]at this;simpa using this.symm
        ·have:=Hv.out;omega
       have h8:=XZ h7;refine⟨?_,h8.2⟩;rw[h8.1];exact Hv.out
      by_cases hz:x=0
      ·obtain rfl:k=0:=by omega
       subst hz;obtain rfl:y=0:=by rw[<-hy];simp
       obtain rfl:m=0:=by have h0:=Hm.out;simpa[Vy.val]using h0.symm
       clear hA hy;go_wp2
       go_ret2
       exact⟨by rw[HF.out.1,HF.out.2];rfl,rfl⟩
      ·have hz':(x==0)=false:=by simp[hz]
       clear hA hz;go_wp2
       go_ret2
       exact⟨by rw[HF.out.1,HF.out.2];rfl,rfl⟩
  ·have HF:Hid (Xu s=0/\Vy.size s=0):=by
    refine XD (BD _ ?_);intro j hj b hjb;refine hall.out j ?_ b hjb
    have:j<s.size:=by
     rcases Nat.lt_or_ge j s.size with h|h
     ·exact h
     ·rw[List.getElem?_eq_none (by simpa using h)]at hjb;simp at hjb
    have:=hl3.out;omega
   clear hvl;go_wp2
   go_ret2
   exact⟨by rw[HF.out.1,HF.out.2];rfl,rfl⟩
theorem oq:(prog.info? 5).map (λi=>(i.zero,i.size,i.bytes))=some (some (.int .u8 0),1,1):=by kernel_rfl
def cz(l:List UInt8):List Value:=l.map λb=>.int .u8 (b.toNat:Int)
theorem uo(a b:List UInt8):cz (a++b)=cz a++cz b:=by simp[cz]
theorem mc(a:List UInt8):(cz a).length=a.length:=by simp[cz]
theorem qZ(l:List UInt8)(x:Int)(h0:0<=x)(h1:x<256):cz (l++[UInt8.ofNat x.toNat])=cz l++[.int .u8 x]:=by
 rw[uo]
 congr 1
 simp only[cz,List.map_cons,List.map_nil,UInt8.toNat_ofNat']
 congr 2
 omega
theorem nz(x:Int):∀u ∈ [Value.int .u8 x],u.oneCell'=true:=by intro u hu;simp at hu;subst hu;rfl
theorem fb{a:Nat}(h:a<=140737488355328):a<=maxLen:=by unfold maxLen;omega
theorem ZR{B:Nat}(o:Obj)(h:B<=w.heap.size):B<=(w.alloc o).heap.size:=by simp;omega
theorem pJ{base:Nat}{l:List UInt8}(h:w.ownsRow base 5 1 v n (cz l)) :
 (convert 29 9 v).run prog w=.ok (.string ⟨l.toArray⟩) w:=by
 have hlen:=h.1;rw[mc,Nat.mul_one]at hlen;rcases h.2 with⟨rfl,h0⟩|⟨g,cap,cur,rfl,_,hg,_,_,_,htk⟩
 ·have:l=[]:=List.eq_nil_of_length_eq_zero (by omega);subst this;exact Lib.run_convert_nil_bytes w _ _ _ _ gE U5 U9
 ·subst hlen;rw[Nat.mul_one]at htk;exact run_convert_bytes_back w _ _ _ _ cap l gE U5 U9
   (λj hj=>Lib.cells_of_row hg l.length j _ (by rw[htk];simp[cz,hj]))
theorem BT{B:Nat}{a w1:World}{e:TypeId}{xs:List Value}{o:Obj}(G:Below B a w)(hown:w.ownsRow B e 1 v n xs)(hB:B<=w.heap.size)
 (hg:(w.alloc o).grownBy w1 v.ownBlock):Below B a w1 :=
 (G.alloc hB o).grown hg (by simp;omega) (λk hk=>(hown.lt k hk).1)
theorem IZ(n:Int)(w:World)(h:n<0\/2147483647<n) :
 CB 182 #[.int .i64 n] w (.tuple #[.string ⟨#[]⟩,.int .i64 3]):=by
 by_cases h1:n<0
 ·clear h;go_enter func182,ntmps182
  go_wp2
  go_ret2
  exact⟨rfl,bR _ _⟩
 ·have h2:2147483647<n:=by omega
  clear h;go_enter func182,ntmps182
  go_wp2
  go_ret2
  exact⟨rfl,bR _ _⟩
theorem uq(n:Int)(w:World)(h0:0<=n)(h:n<=2147483647) :
 CB 182 #[.int .i64 n] w (.tuple #[.string ⟨(VB n.toNat).toArray⟩,.int .i64 0]):=by
 obtain⟨i0,hi,hz0,hz1,hz2⟩:=info_parts oq;have hd1:=dF (by omega:¬(n<0));have hd2:=dF (by omega:¬(2147483647<n));go_enter func182,ntmps182
 go_wp2
 go_loopw [0,4] (λnv bv wr=>∃(m:Int) (l:List UInt8),0<=m/\m<=2147483647/\nv=.int .i64 m/\Hid (VB n.toNat=l++VB m.toNat)/\wr.ownsRow w.heap.size 5 1 bv l.length (cz l)/\ae w wr)
  (λnv _ _=>(intOf nv).toNat)
 case atStart=>exact⟨n,[],h0,h,rfl,rfl,World.ownsRow_nil _ _ _ _,bR _ _⟩
 case round =>
  obtain⟨m,l,hm0,hm,rfl,hl,hown,G⟩:=hrel
  have hlen:l.length<=5:=by
   have h5:=V3 n.toNat (by omega);rw[hl.out,List.length_append]at h5;omega
  have hsz:=G.size;by_cases hlt:128<=m
  ·go_wp2_with (at_builtin;refine wpList_append_own _ rfl _ _ 29 rfl w.heap.size 5 i0 (.int .u8 0) 1 1 gE hi hz0 hz1 hz2 rfl (by decide) _ _ _ rfl (hown.alloc _) ⟨wr.heap.size,0,none⟩ 1 1 [.int .u8 (m%128+128)] rfl rfl (cell_one_new _ _ _) (nz _) (fb (by omega)) (by omega) (ZR _ hsz) ?_;intro v' w1 hown' hgrow _)
   have G1:=BT G hown hsz hgrow;have e1:cz (l++[UInt8.ofNat (m%128+128).toNat])=cz l++[.int .u8 (m%128+128)]:=qZ l _ (by omega) (by omega)
   have HL:Hid (VB n.toNat=(l++[UInt8.ofNat (m%128+128).toNat])++VB (m/128).toNat):=by
    show _=_
    have e2:VB m.toNat=UInt8.ofNat (m%128+128).toNat :: VB (m/128).toNat:=by
     rw[aak (n:=m.toNat) (by omega),show(m%128+128).toNat=128+m.toNat%128 by omega,show(m/128).toNat=m.toNat/128 by omega]
    rw[hl.out,e2,List.append_assoc,List.singleton_append]
   have HO:w1.ownsRow w.heap.size 5 1 v' (l++[UInt8.ofNat (m%128+128).toNat]).length (cz (l++[UInt8.ofNat (m%128+128).toNat])):=by
    rw[e1,List.length_append];exact hown'
   clear hown' hgrow hown e1 G hl;go_wp2
   go_roundw
   case rel=>exact⟨m/128,_,by omega,by omega,rfl,HL,HO,G1⟩
   case measure=>simp[intOf];omega
  ·have He:Hid (cz (VB n.toNat)=cz l++[.int .u8 m]):=by
    show _=_;rw[hl.out,YW (n:=m.toNat) (by omega)];exact qZ l _ (by omega) (by omega)
   clear hl;go_wp2_with (at_builtin;refine wpList_append_own _ rfl _ _ 29 rfl w.heap.size 5 i0 (.int .u8 0) 1 1 gE hi hz0 hz1 hz2 rfl (by decide) _ _ _ rfl (hown.alloc _) ⟨wr.heap.size,0,none⟩ 1 1 [.int .u8 m] rfl rfl (cell_one_new _ _ _) (nz _) (fb (by omega)) (by omega) (ZR _ hsz) ?_;intro v' w1 hown' hgrow _;have hcv:=pJ (l:=VB n.toNat) (by rw[He.out];exact hown'))
   go_ret2
   exact⟨rfl,BT G hown hsz hgrow⟩
theorem I0(s:ByteArray)(w:World)(hs:s.size<=281474976710656)(h:512<s.size) :
 CB 196 #[.string s] w (.tuple #[.string ⟨#[]⟩,.int .i64 2]):=by
 have h2:(512:Int)<(s.size:Int):=by omega
 go_enter func196,ntmps196
 go_wp2_with fail
 go_ret2
 exact⟨rfl,bR _ _⟩
theorem I1(s:ByteArray)(w:World)(h:s.size<=512) :
 CB 196 #[.string s] w (.tuple #[.string (⟨(VB s.size).toArray⟩++s),.int .i64 0]):=by
 have h2:(s.size:Int)<=512:=by omega
 have hc:=uq s.size w (by omega) (by omega);rw[Int.toNat_natCast]at hc;have hl:=V3 s.size (by omega);go_enter func196,ntmps196
 go_wp2_with fail
 refine mo hc λw' G=>?_
 clear hc;generalize hL:VB s.size=L at*;have HL:=Za hL;clear hL;go_wp2_with fail
 go_ret2
 exact⟨by rw[HL.out];rfl,G⟩
theorem nA(x:Int)(h0:0<=x)(h1:x<256)(W:World)(g:Nat)(hc:W.cell? ⟨g,0,none⟩=some (.int .u8 x)) :
 (convert 29 9 (.slice (some ⟨g,0,none⟩) 1 1)).run prog W=.ok (.string ⟨#[UInt8.ofNat x.toNat]⟩) W:=by
 refine run_convert_bytes_back W _ _ _ ⟨g,0,none⟩ 1 [UInt8.ofNat x.toNat] gE U5 U9 (λj hj=>?_);have:j=0:=by simpa using hj
 subst this;show W.cell? ⟨g,0,none⟩=_;rw[hc];simp only[List.getElem_cons_zero,UInt8.toNat_ofNat']
 congr 2
 omega
theorem ZF(k:Nat):∀(n:Int) (w:World),0<=n->n<=k->n<=2147483647 →
 CB 83 #[.int .i64 n] w (.string ⟨(VB n.toNat).toArray⟩):=by
 induction k with
 |zero =>
  intro n w h0 hk _;obtain rfl:n=0:=by omega
  have hcv:=nA 0 (by omega) (by omega);go_enter func83,ntmps83
  go_wp2_with fail
  go_ret
  exact⟨rfl,(bR _ _).alloc (nl _) _⟩
 |succ k ih =>
  intro n w h0 hk hb;by_cases hn:n<128
  ·have hcv:=nA n (by omega) (by omega);have HN:Hid (VB n.toNat=[UInt8.ofNat n.toNat]):=YW (by omega);clear ih;go_enter func83,ntmps83
   go_wp2_with fail
   go_ret
   exact⟨by rw[HN.out];rfl,(bR _ _).alloc (nl _) _⟩
  ·have hcv:=nA (128+n%128) (by omega) (by omega);have IH:=Za ih;clear ih;have hl:(VB (n/128).toNat).length<=5:=V3 _ (by omega)
   have HN:Hid (VB n.toNat=UInt8.ofNat (128+n%128).toNat :: VB (n/128).toNat):=by
    show _=_;rw[aak (n:=n.toNat) (by omega),show(128+n%128).toNat=128+n.toNat%128 by omega,show(n/128).toNat=n.toNat/128 by omega]
   have hr1:IntKind.i64.wrap (128+n%128)=128+n%128:=IntWalk.i64_in _ ⟨by omega,by omega⟩;have hr3:n.tmod 128=n%128:=Int.tmod_eq_emod_of_nonneg h0;have hr4:n.tdiv 128=n/128:=Int.tdiv_eq_ediv_of_nonneg h0;have BU:IntKind.i64.wrap (n/128)=n/128:=IntWalk.i64_in _ ⟨by omega,by omega⟩;have hr2:IntKind.u8.wrap (128+n%128)=128+n%128:=IntWalk.u8_in _ ⟨by omega,by omega⟩;go_enter func83,ntmps83
   go_wp2_with fail
   go_region_with (go_at_call 83;refine(IH.out _ _ (by omega) (by omega) (by omega)).mono ?_;rintro e w1 ⟨rfl,hB⟩;have hk1:=BS hB)
   all_goals go_wp2
   all_goals go_ret
   all_goals refine⟨?_,?_⟩
   all_goals first|exact congrArg (λs=>Ending.returned (Value.string s)) ((XR [_] _).trans (by rw[HN.out];rfl))|skip
   all_goals first|exact l8 ((bR _ _).alloc (nl _) _).drew hB (nl _)|exact l8 (bR _ _).drew hB (nl _)|exact(l8 (bR _ _).drew hB (nl _)).alloc hB.size _|skip
theorem BV(s:ByteArray)(w:World)(hs:s.size<=281474976710656) :
 CB 123 #[.string s] w (.tuple #[.int .i64 (Xu s:Nat),.string (Vy.rest s),.bool (Yn s)]):=by
 have hs2:(s.size:Int)<=281474976710656:=by omega
 clear hs;go_enter func123,ntmps123
 go_wp2_with fail
 go_loop [5,6,7] (λn p i=>∃k:Nat,k<=s.size/\k<=5/\i=.int .i64 k/\n=.int .i64 (Vy.val (s.data.toList.take k):Nat)/\p=.int .i64 (128^k:Int)/\Hid (∀j,j<k->∀b,s.data.toList[j]?=some b->128<=b.toNat)) (λ_ _ i=>5-(intOf i).toNat)
 case atStart=>exact⟨0,by omega,by omega,rfl,rfl,rfl,λj h=>by omega⟩
 case round =>
  obtain⟨k,hk,hk5,rfl,rfl,rfl,hall⟩:=hrel;have hvl:=aai (s.data.toList.take k);generalize hm:Vy.val (s.data.toList.take k)=m at*;have Hm:=Za hm;clear hm;by_cases hlt:k<s.size/\k<5
  ·obtain⟨h1,h2⟩:=hlt
   have hmb:(m:Int)<268435456:=by
    have h3:(s.data.toList.take k).length<=4:=by rw[List.length_take];omega
    have h4:128^(s.data.toList.take k).length<=128^4:=Nat.pow_le_pow_right (by omega) h3;omega
   clear hvl
   obtain⟨x,hx⟩:∃x:Int,(s[k].toNat:Int)=x:=⟨_,rfl⟩
   have hx0:0<=x:=by omega
   have hx1:x<=255:=by have:=s[k].toNat_lt;omega
   generalize hp:(128:Int)^k=p at*
   have hp1:p<=268435456:=by
    rw[<-hp];have:k=0\/k=1\/k=2\/k=3\/k=4:=by omega
    rcases this with rfl|rfl|rfl|rfl|rfl<;>decide
   have hp0:0<p:=by rw[<-hp];exact Int.pow_pos (by omega)
   obtain⟨y,hy⟩:∃y:Int,p*(x%128)=y:=⟨_,rfl⟩
   have hy0:0<=y:=by rw[<-hy];exact Int.mul_nonneg (by omega) (by omega)
   have hy1:y<=34359738368:=by
    rw[<-hy];have h9:p*(x%128)<=268435456*128:=Int.mul_le_mul hp1 (by omega) (by omega) (by omega);omega
   have Hp:=Za hp;have Hx:=Za hx
   have Hv:Hid ((Vy.val (s.data.toList.take (k+1)):Int)=(m:Int)+y):=by
    show(Vy.val (s.data.toList.take (k+1)):Int)=(m:Int)+y;rw[aaj s k h1,Hm.out,<-hy,<-hx,<-hp,Nat.pow_mul];simp[Int.mul_comm]
   clear hp;have hl5:=al (by omega:(k:Int)<5);have wR:=al (by omega:(k:Int)<(s.size:Int));have I2:=al (by omega:k<5);have wT:=al (by omega:k<s.size);by_cases hb:128<=x
   ·have hb2:=dF (by omega:¬(x<128));go_wp2_with fail
    go_round
    case rel =>
     refine⟨k+1,by omega,by omega,by go_num,by rw[<-Hv.out],by rw[Int.pow_succ,Hp.out],?_⟩;show ∀j,_;intro j hj b hjb;by_cases hjk:j=k
     ·subst hjk;rw[ZX s j h1]at hjb;simp only[Option.some.injEq]at hjb;subst hjb;have:=Hx.out;omega
     ·exact hall.out j (by omega) b hjb
    case measure=>simp[intOf];omega
   ·have hb2:=al (by omega:x<128);have Hf:=Za (Vy.IS s.data.toList k s[k] (by omega) (ZX s k h1) (by omega) hall.out);have hr1:IntKind.i64.wrap ((k:Int)+1)=(k:Int)+1:=IntWalk.i64_in _ ⟨by omega,by omega⟩;by_cases hbig:2147483647<(m:Int)+y
    ·have hb3:=al (by omega:2147483647<(m:Int)+y)
     have h7:Zt s.data.toList=none:=by
      rw[Hf.out,ab];have:=Hv.out;omega
     have HF:Hid (Xu s=0/\Vy.rest s=⟨#[]⟩/\Yn s=false):=⟨(XD h7).1,qU h7⟩
     clear h7;go_wp2_with fail
     go_quiet (fail)
     go_wp2_with fail
     go_ret3
     exact⟨by rw[HF.out.1,HF.out.2.1,HF.out.2.2];rfl,below_drewN (bR _ _) _⟩
    ·have hb3:=dF (by omega:¬(2147483647<(m:Int)+y));have hi1:(0:Int)<=(k:Int)+1:=by omega
     have hi2:(k:Int)+1<=(s.size:Int):=by omega
     have HV:Hid (Vy.val (s.data.toList.take (k+1))=((m:Int)+y).toNat):=by
      show _=_;have:=Hv.out;omega
     have hL:(s.extract 0 (k+1)).toList=s.data.toList.take (k+1):=by
      rw[Lib.toList_data,Lib.extract_data];simp
     by_cases hE:VB ((m:Int)+y).toNat=s.data.toList.take (k+1)
     ·have hq:(VB ((m:Int)+y).toNat==(s.extract 0 (k+1)).toList)=true:=by rw[hL,hE];simp
      have h7:Zt s.data.toList=some (((m:Int)+y).toNat,k+1):=by
       rw[Hf.out,HV.out,ax ⟨by omega,hE⟩]
      have HF:Hid ((Xu s:Int)=(m:Int)+y/\Vy.rest s=s.extract (k+1) s.size/\Yn s=true) :=
       ⟨by rw[(XZ h7).1];omega,wG h7⟩
      clear h7 hE hL;go_wp2_with fail
      go_region_held3 (λ_=>True) (trivial) (first|(go_at_call 83;refine(ZF ((m:Int)+y).toNat _ _ (by omega) (by omega) (by omega)).mono ?_;rintro e w1 ⟨rfl,hB⟩))
      go_wp2_with fail
      go_quiet (fail)
      go_wp2_with fail
      go_ret3
      exact⟨by rw[HF.out.1,HF.out.2.1,HF.out.2.2];rfl,below_drewN (l8 (bR _ _).drew hB (nl _)) _⟩
     ·have hq:(VB ((m:Int)+y).toNat==(s.extract 0 (k+1)).toList)=false:=by rw[hL];simp[hE]
      have h7:Zt s.data.toList=none:=by
       rw[Hf.out,HV.out,ab (λh=>hE h.2)]
      have HF:Hid (Xu s=0/\Vy.rest s=⟨#[]⟩/\Yn s=false):=⟨(XD h7).1,qU h7⟩
      clear h7 hE hL;go_wp2_with fail
      go_region_held3 (λ_=>True) (trivial) (first|(go_at_call 83;refine(ZF ((m:Int)+y).toNat _ _ (by omega) (by omega) (by omega)).mono ?_;rintro e w1 ⟨rfl,hB⟩))
      go_wp2_with fail
      go_ret3
      exact⟨by rw[HF.out.1,HF.out.2.1,HF.out.2.2];rfl,l8 (bR _ _).drew hB (nl _)⟩
  ·have h7:Zt s.data.toList=none:=by
    refine BD _ ?_;intro j hj b hjb;refine hall.out j ?_ b hjb
    have:j<s.size:=by
     rcases Nat.lt_or_ge j s.size with h|h
     ·exact h
     ·rw[List.getElem?_eq_none (by simpa using h)]at hjb;simp at hjb
    omega
   have HF:Hid (Xu s=0/\Vy.rest s=⟨#[]⟩/\Yn s=false):=⟨(XD h7).1,qU h7⟩
   clear h7 hvl;by_cases hks:k<s.size
   ·have wR:=al (by omega:(k:Int)<(s.size:Int));have hl5:=dF (by omega:¬((k:Int)<5));have I2:=dF (by omega:¬(k<5));have wT:=al (by omega:k<s.size);clear hlt;go_wp2_with fail
    go_ret3
    exact⟨by rw[HF.out.1,HF.out.2.1,HF.out.2.2];rfl,bR _ _⟩
   ·have wR:=dF (by omega:¬((k:Int)<(s.size:Int)));have wT:=dF (by omega:¬(k<s.size));clear hlt;go_wp2_with fail
    go_ret3
    exact⟨by rw[HF.out.1,HF.out.2.1,HF.out.2.2];rfl,bR _ _⟩
theorem wU(s:ByteArray)(w:World)(hs:s.size<=281474976710656)(h:Zt s.data.toList=none) :
 CB 123 #[.string s] w (.tuple #[.int .i64 0,.string ⟨#[]⟩,.bool false]):=by
 have hc:=BV s w hs;rw[(XD h).1,(qU h).1,(qU h).2]at hc;exact hc
theorem ra(s:ByteArray)(w:World)(n k:Nat)(hs:s.size<=281474976710656)(h:Zt s.data.toList=some (n,k)) :
 CB 123 #[.string s] w (.tuple #[.int .i64 n,.string (s.extract k s.size),.bool true]):=by
 have hc:=BV s w hs;rw[(XZ h).1,(wG h).1,(wG h).2]at hc;exact hc
theorem ur(s:ByteArray)(w:World)(hs:s.size<=281474976710656)(h:Zt s.data.toList=none) :
 CB 218 #[.string s] w (.tuple #[.int .i64 0,.string ⟨#[]⟩,.int .i64 1]):=by
 have hn:=XD h;have hc:=qY s w (by unfold maxLen;omega);rw[hn.1,hn.2]at hc;clear h hn;go_enter func218,ntmps218
 go_wp2_with fail
 refine mo hc ?_;rintro w' rfl;go_wp2_with fail
 go_ret3
 exact⟨rfl,bR _ _⟩
theorem ou(s:ByteArray)(w:World)(n k:Nat)(hs:s.size<=281474976710656)(h:Zt s.data.toList=some (n,k)) :
 CB 218 #[.string s] w (.tuple #[.int .i64 n,.string (s.extract k s.size),.int .i64 0]):=by
 have hn:=XZ h;have hc:=qY s w (by unfold maxLen;omega);rw[hn.1,hn.2]at hc;have hb:=WM h;have hk1:(1:Int)<=(k:Int):=by omega
 have hk2:k<=s.size:=by simpa using hb.2.2.1
 have hk0:((k:Int)==0)=false:=by simp;omega
 clear h hn hb;go_enter func218,ntmps218
 go_wp2_with fail
 refine mo hc ?_;rintro w' rfl;clear hc;go_wp2_with fail
 refine mo (ZY _ _ (by simp;omega)) λw' hb=>?_
 go_wp2_with fail
 go_ret3
 exact⟨rfl,hb⟩
theorem I3(s:ByteArray)(w:World)(hs:s.size<=281474976710656)(h:Zt s.data.toList=none) :
 CB 200 #[.string s] w (.tuple #[.string ⟨#[]⟩,.string ⟨#[]⟩,.int .i64 1]):=by
 have hn:=XD h;have hc:=qY s w (by unfold maxLen;omega);rw[hn.1,hn.2]at hc;clear h hn;go_enter func200,ntmps200
 go_wp2_with fail
 refine mo hc ?_;rintro w' rfl;clear hc;go_wp2_with fail
 go_ret3
 exact⟨rfl,bR _ _⟩
theorem I4(s:ByteArray)(w:World)(n k:Nat)(hs:s.size<=281474976710656)(h:Zt s.data.toList=some (n,k))(hbad:512<n\/s.size<k+n) :
 CB 200 #[.string s] w (.tuple #[.string ⟨#[]⟩,.string ⟨#[]⟩,.int .i64 1]):=by
 have hn:=XZ h;have hc:=qY s w (by unfold maxLen;omega);rw[hn.1,hn.2]at hc;have hb:=WM h;have wV:(n:Int)<=2147483647:=by omega
 have hk1:(1:Int)<=(k:Int):=by omega
 have hk2:k<=s.size:=by simpa using hb.2.2.1
 have hk0:((k:Int)==0)=false:=by simp;omega
 clear h hn hb;by_cases hbig:512<n
 ·have hb2:(512:Int)<(n:Int):=by omega
  clear hbad;go_enter func200,ntmps200
  go_wp2_with fail
  refine mo hc ?_;rintro w' rfl;clear hc;go_wp2_with fail
  go_ret3
  exact⟨rfl,bR _ _⟩
 ·have hb2:(n:Int)<=512:=by omega
  have hb3:(s.size:Int)-(k:Int)<(n:Int):=by omega
  clear hbad;go_enter func200,ntmps200
  go_wp2_with fail
  refine mo hc ?_;rintro w' rfl;clear hc;go_wp2_with fail
  go_ret3
  exact⟨rfl,bR _ _⟩
theorem I5(s:ByteArray)(w:World)(n k:Nat)(hs:s.size<=281474976710656)(h:Zt s.data.toList=some (n,k))(UD:n<=512)(hfit:k+n<=s.size) :
 CB 200 #[.string s] w (.tuple #[.string (s.extract k (k+n)),.string (s.extract (k+n) s.size),.int .i64 0]):=by
 have hn:=XZ h;have hc:=qY s w (by unfold maxLen;omega);rw[hn.1,hn.2]at hc;have hb:=WM h;have hk1:(1:Int)<=(k:Int):=by omega
 have hk2:k<=s.size:=by simpa using hb.2.2.1
 have hk0:((k:Int)==0)=false:=by simp;omega
 have ht1:=dF (by omega:¬((512:Int)<(n:Int)));have ht2:=dF (by omega:¬((s.size:Int)-(k:Int)<(n:Int)));have hi1:(k:Int)<=(k:Int)+(n:Int):=by omega
 have hi2:(k:Int)+(n:Int)<=(s.size:Int):=by omega
 have hi3:(0:Int)<=(k:Int)+(n:Int):=by omega
 clear h hn hb;go_enter func200,ntmps200
 go_wp2_with fail
 refine mo hc ?_;rintro w' rfl;clear hc;go_wp2_with fail
 have G:ae w' w':=bR _ _;go_region_with (go_at_call 73;refine(ZY _ _ (XE hs)).mono ?_;rintro e w1 ⟨rfl,hb⟩;replace G:Below _ _ w1:=(by first|exact ag G hb|exact ag G.drew hb);clear hb)
 all_goals go_wp2
 all_goals go_ret3
 all_goals (rw[show((k:Int)+(n:Int)).toNat=k+n by omega];exact⟨rfl,G⟩)
end Go.Proofs.YtbjbjbpgmojcbacGreatDoor
