/- A part of the proof: what it leans on. -/
import Derived.Shelf.Small.Strs
import Derived.Shelf.Strings.Search3
import Derived.Shelf.Strings.Shaped
import Derived.Shelf.SlSortCmp.NoneTotal
import Derived.Maps.OwnSet
import Derived.Maps.OwnOps
import Derived.Maps.RangeWalk
import Derived.Sort.OwnSorted
import Derived.Sort.KeysCollected
import Derived.OwnWalk
import Derived.Test.YtbjbjbpgmojcbacGreatLk19
set_option maxRecDepth 4000
set_option maxHeartbeats 2000000
namespace Go.Proofs
open Go.Shelf
def Tryz.lays106_ren:Go.Shelf.Ren:=⟨fun | 106=>55 | 213=>87 | 265=>114 | n=>n,fun | 9=>9 | 3=>3 | n=>n,fun | n=>n⟩
theorem Tryz.lays106:Go.Proofs.Lays.n106 Tryz.prog Tryz.lays106_ren:={
 mixed:=by kernel_rfl
 f106:=Tryz.func55.trans (congrArg some (by kernel_rfl))
 f213:=Tryz.func87.trans (congrArg some (by kernel_rfl))
 f265:=Tryz.func114.trans (congrArg some (by kernel_rfl))
 t3:=Tryz.underlying3
 a3:=Tryz.isAgg3
 z3:=Tryz.sizeOf3
 v3:=Tryz.zeroValue3
 t9:=Tryz.underlying9
 a9:=Tryz.isAgg9
 z9:=Tryz.sizeOf9
 v9:=Tryz.zeroValue9 }
open Go.RowKit in
theorem Tryz.strings_Compare (a b:ByteArray) (w:World) :
 Calls Tryz.prog 55 #[.string a,.string b] w fun e w'=>e=.returned (.int .i64 (Lib.compareBytes a.data.toList b.data.toList))/\w'=w:=Any.strings_Compare Tryz.lays106 a b w
def Tryz.lays143_ren:Go.Shelf.Ren:=⟨fun | 143=>101 | 219=>130 | 217=>164 | 225=>165 | 224=>166 | 267=>167 | 266=>181 | 314=>182 | n=>n,fun | 9=>9 | 3=>3 | 4=>4 | 5=>5 | 46=>117 | 146=>213 | 51=>187 | n=>n,fun | 1=>0 | n=>n⟩
theorem Tryz.lays143:Go.Proofs.Lays.n143 Tryz.prog Tryz.lays143_ren:={
 mixed:=by kernel_rfl
 f143:=Tryz.func101.trans (congrArg some (by kernel_rfl))
 f217:=Tryz.func164.trans (congrArg some (by kernel_rfl))
 f219:=Tryz.func130.trans (congrArg some (by kernel_rfl))
 f224:=Tryz.func166.trans (congrArg some (by kernel_rfl))
 f225:=Tryz.func165.trans (congrArg some (by kernel_rfl))
 f266:=Tryz.func181.trans (congrArg some (by kernel_rfl))
 f267:=Tryz.func167.trans (congrArg some (by kernel_rfl))
 f314:=Tryz.func182.trans (congrArg some (by kernel_rfl))
 t3:=Tryz.underlying3
 a3:=Tryz.isAgg3
 z3:=Tryz.sizeOf3
 v3:=Tryz.zeroValue3
 t4:=Tryz.underlying4
 a4:=Tryz.isAgg4
 z4:=Tryz.sizeOf4
 v4:=Tryz.zeroValue4
 t5:=Tryz.underlying5
 a5:=Tryz.isAgg5
 z5:=Tryz.sizeOf5
 v5:=Tryz.zeroValue5
 t9:=Tryz.underlying9
 a9:=Tryz.isAgg9
 z9:=Tryz.sizeOf9
 v9:=Tryz.zeroValue9
 t46:=Tryz.underlying117
 a46:=Tryz.isAgg117
 z46:=Tryz.sizeOf117
 v46:=Tryz.zeroValue117
 t51:=Tryz.underlying187
 a51:=Tryz.isAgg187
 z51:=Tryz.sizeOf187
 v51:=Tryz.zeroValue187
 t146:=Tryz.underlying213
 a146:=Tryz.isAgg213
 z146:=Tryz.sizeOf213
 v146:=Tryz.zeroValue213
 g1:=by kernel_rfl }
open Go.RowKit Go.Lib in
theorem Tryz.strings_Index (s sub:ByteArray) (m:Int) (w:World) (hs:s.size<4294967281) (hm:w.cell? ⟨0,0,none⟩=some (.int .i64 m)) :
 Calls Tryz.prog 101 #[.string s,.string sub] w fun e w'=>e=.returned (.int .i64 (Lib.index s.data.toList sub.data.toList))/\w'=w:=Any.strings_Index Tryz.lays143 s sub m w hs hm
def Tryz.lays144_ren:Go.Shelf.Ren:=⟨fun | 144=>67 | 143=>101 | 219=>130 | 217=>164 | 225=>165 | 224=>166 | 267=>167 | 266=>181 | 314=>182 | n=>n,fun | 9=>9 | 4=>4 | 3=>3 | 5=>5 | 46=>117 | 146=>213 | 51=>187 | n=>n,fun | 1=>0 | n=>n⟩
theorem Tryz.lays144:Go.Proofs.Lays.n144 Tryz.prog Tryz.lays144_ren:={
 mixed:=by kernel_rfl
 f143:=Tryz.func101.trans (congrArg some (by kernel_rfl))
 f144:=Tryz.func67.trans (congrArg some (by kernel_rfl))
 f217:=Tryz.func164.trans (congrArg some (by kernel_rfl))
 f219:=Tryz.func130.trans (congrArg some (by kernel_rfl))
 f224:=Tryz.func166.trans (congrArg some (by kernel_rfl))
 f225:=Tryz.func165.trans (congrArg some (by kernel_rfl))
 f266:=Tryz.func181.trans (congrArg some (by kernel_rfl))
 f267:=Tryz.func167.trans (congrArg some (by kernel_rfl))
 f314:=Tryz.func182.trans (congrArg some (by kernel_rfl))
 t3:=Tryz.underlying3
 a3:=Tryz.isAgg3
 z3:=Tryz.sizeOf3
 v3:=Tryz.zeroValue3
 t4:=Tryz.underlying4
 a4:=Tryz.isAgg4
 z4:=Tryz.sizeOf4
 v4:=Tryz.zeroValue4
 t5:=Tryz.underlying5
 a5:=Tryz.isAgg5
 z5:=Tryz.sizeOf5
 v5:=Tryz.zeroValue5
 t9:=Tryz.underlying9
 a9:=Tryz.isAgg9
 z9:=Tryz.sizeOf9
 v9:=Tryz.zeroValue9
 t46:=Tryz.underlying117
 a46:=Tryz.isAgg117
 z46:=Tryz.sizeOf117
 v46:=Tryz.zeroValue117
 t51:=Tryz.underlying187
 a51:=Tryz.isAgg187
 z51:=Tryz.sizeOf187
 v51:=Tryz.zeroValue187
 t146:=Tryz.underlying213
 a146:=Tryz.isAgg213
 z146:=Tryz.sizeOf213
 v146:=Tryz.zeroValue213
 g1:=by kernel_rfl }
open Go.RowKit Go.Lib in
theorem Tryz.strings_Contains (s sub:ByteArray) (m:Int) (w:World) (hs:s.size<4294967281) (hm:w.cell? ⟨0,0,none⟩=some (.int .i64 m)) :
 Calls Tryz.prog 67 #[.string s,.string sub] w fun e w'=>e=.returned (.bool (Lib.contains s.data.toList sub.data.toList))/\w'=w:=Any.strings_Contains Tryz.lays144 s sub m w hs hm
def Tryz.laysM144_ren:Go.Shelf.Ren:=⟨fun | 144=>67 | 143=>101 | 219=>130 | 217=>164 | 225=>165 | 224=>166 | 267=>167 | 266=>181 | 314=>182 | n=>n,fun | 9=>9 | 4=>4 | 3=>3 | 5=>5 | 46=>117 | 146=>213 | 51=>187 | n=>n,fun | 1=>0 | n=>n⟩
theorem Tryz.laysM144:Go.Proofs.LaysM.n144 Tryz.prog Tryz.laysM144_ren:={
 mixed:=by kernel_rfl
 f143:=Tryz.func101.trans (congrArg some (by kernel_rfl))
 f144:=Tryz.func67.trans (congrArg some (by kernel_rfl))
 f217:=Tryz.func164.trans (congrArg some (by kernel_rfl))
 f219:=Tryz.func130.trans (congrArg some (by kernel_rfl))
 f224:=Tryz.func166.trans (congrArg some (by kernel_rfl))
 f225:=Tryz.func165.trans (congrArg some (by kernel_rfl))
 f266:=Tryz.func181.trans (congrArg some (by kernel_rfl))
 f267:=Tryz.func167.trans (congrArg some (by kernel_rfl))
 f314:=Tryz.func182.trans (congrArg some (by kernel_rfl))
 t3:=Tryz.underlying3
 a3:=Tryz.isAgg3
 z3:=Tryz.sizeOf3
 v3:=Tryz.zeroValue3
 t4:=Tryz.underlying4
 a4:=Tryz.isAgg4
 z4:=Tryz.sizeOf4
 v4:=Tryz.zeroValue4
 t5:=Tryz.underlying5
 a5:=Tryz.isAgg5
 z5:=Tryz.sizeOf5
 v5:=Tryz.zeroValue5
 t9:=Tryz.underlying9
 a9:=Tryz.isAgg9
 z9:=Tryz.sizeOf9
 v9:=Tryz.zeroValue9
 t46:=Tryz.underlying117
 a46:=Tryz.isAgg117
 z46:=Tryz.sizeOf117
 v46:=Tryz.zeroValue117
 t51:=Tryz.underlying187
 a51:=Tryz.isAgg187
 z51:=Tryz.sizeOf187
 v51:=Tryz.zeroValue187
 t146:=Tryz.underlying213
 a146:=Tryz.isAgg213
 z146:=Tryz.sizeOf213
 v146:=Tryz.zeroValue213
 g1:=by kernel_rfl
 i3:=by kernel_rfl
 i4:=by kernel_rfl
 i5:=by kernel_rfl
 i9:=by kernel_rfl
 i46:=by kernel_rfl
 i51:=by kernel_rfl
 i146:=by kernel_rfl
 m1:=by kernel_rfl
 s1_3:=fun w h=>Go.Proofs.cell_of_shapedOpen_int (zero:=#[.int .i64 0]) (t:=3) h (of_decide_eq_true (by kernel_rfl)) (by kernel_rfl) rfl (by kernel_rfl) (by kernel_rfl) Tryz.underlying3 }
open Go.RowKit Go.Lib in
theorem Tryz.strings_Contains_shaped (s sub:ByteArray) (w:World) (h:w.ShapedOpen Tryz.prog) (hs:s.size<4294967281) :
 Calls Tryz.prog 67 #[.string s,.string sub] w fun e w'=>e=.returned (.bool (Lib.contains s.data.toList sub.data.toList))/\w'=w:=Any.strings_Contains_shaped Tryz.laysM144 s sub w h hs
def Tryz.laysSlF06_f23_ren:Go.Shelf.Ren:=⟨fun | 6=>99 | 15=>129 | 14=>128 | 28=>162 | 29=>163 | 20=>154 | 21=>155 | 22=>156 | 23=>157 | 24=>158 | 25=>159 | 26=>160 | 27=>161 | 46=>176 | 47=>177 | 48=>178 | 49=>179 | 50=>180 | 57=>184 | n=>n,fun | 22=>30 | 24=>9 | 25=>88 | 3=>3 | 39=>117 | 0=>0 | 53=>187 | 55=>189 | 4=>4 | 46=>181 | 45=>180 | 50=>56 | 5=>5 | 9=>9 | 66=>207 | 70=>211 | 76=>217 | 77=>146 | n=>n,fun | n=>n⟩
theorem Tryz.laysSlF06_f23:Go.Proofs.SlLaysF0.n6 Tryz.prog Tryz.laysSlF06_f23_ren:={
 mixed:=by kernel_rfl
 f6:=⟨Tryz.f99.name,by decide,Tryz.func99.trans (congrArg some (by kernel_rfl))⟩
 f14:=⟨Tryz.f128.name,by decide,Tryz.func128.trans (congrArg some (by kernel_rfl))⟩
 f15:=Tryz.func129.trans (congrArg some (by kernel_rfl))
 f20:=⟨Tryz.f154.name,by decide,Tryz.func154.trans (congrArg some (by kernel_rfl))⟩
 f21:=⟨Tryz.f155.name,by decide,Tryz.func155.trans (congrArg some (by kernel_rfl))⟩
 f22:=⟨Tryz.f156.name,by decide,Tryz.func156.trans (congrArg some (by kernel_rfl))⟩
 f23:=⟨Tryz.f157.name,by decide,Tryz.func157.trans (congrArg some (by kernel_rfl))⟩
 f24:=⟨Tryz.f158.name,by decide,Tryz.func158.trans (congrArg some (by kernel_rfl))⟩
 f25:=⟨Tryz.f159.name,by decide,Tryz.func159.trans (congrArg some (by kernel_rfl))⟩
 f26:=⟨Tryz.f160.name,by decide,Tryz.func160.trans (congrArg some (by kernel_rfl))⟩
 f27:=⟨Tryz.f161.name,by decide,Tryz.func161.trans (congrArg some (by kernel_rfl))⟩
 f28:=Tryz.func162.trans (congrArg some (by kernel_rfl))
 f29:=Tryz.func163.trans (congrArg some (by kernel_rfl))
 f46:=⟨Tryz.f176.name,by decide,Tryz.func176.trans (congrArg some (by kernel_rfl))⟩
 f47:=Tryz.func177.trans (congrArg some (by kernel_rfl))
 f48:=Tryz.func178.trans (congrArg some (by kernel_rfl))
 f49:=⟨Tryz.f179.name,by decide,Tryz.func179.trans (congrArg some (by kernel_rfl))⟩
 f50:=⟨Tryz.f180.name,by decide,Tryz.func180.trans (congrArg some (by kernel_rfl))⟩
 f57:=⟨Tryz.f184.name,by decide,Tryz.func184.trans (congrArg some (by kernel_rfl))⟩
 t0:=Tryz.underlying0
 a0:=Tryz.isAgg0
 z0:=Tryz.sizeOf0
 v0:=Tryz.zeroValue0
 t3:=Tryz.underlying3
 a3:=Tryz.isAgg3
 z3:=Tryz.sizeOf3
 v3:=Tryz.zeroValue3
 t4:=Tryz.underlying4
 a4:=Tryz.isAgg4
 z4:=Tryz.sizeOf4
 v4:=Tryz.zeroValue4
 t5:=Tryz.underlying5
 a5:=Tryz.isAgg5
 z5:=Tryz.sizeOf5
 v5:=Tryz.zeroValue5
 t9:=Tryz.underlying9
 a9:=Tryz.isAgg9
 z9:=Tryz.sizeOf9
 v9:=Tryz.zeroValue9
 t22:=Tryz.underlying30
 a22:=Tryz.isAgg30
 z22:=Tryz.sizeOf30
 v22:=Tryz.zeroValue30
 t25:=Tryz.underlying88
 a25:=Tryz.isAgg88
 z25:=Tryz.sizeOf88
 v25:=Tryz.zeroValue88
 t39:=Tryz.underlying117
 a39:=Tryz.isAgg117
 z39:=Tryz.sizeOf117
 v39:=Tryz.zeroValue117
 t45:=Tryz.underlying180
 a45:=Tryz.isAgg180
 z45:=Tryz.sizeOf180
 v45:=Tryz.zeroValue180
 t46:=Tryz.underlying181
 a46:=Tryz.isAgg181
 z46:=Tryz.sizeOf181
 v46:=Tryz.zeroValue181
 t50:=Tryz.underlying56
 a50:=Tryz.isAgg56
 z50:=Tryz.sizeOf56
 v50:=Tryz.zeroValue56
 t53:=Tryz.underlying187
 a53:=Tryz.isAgg187
 z53:=Tryz.sizeOf187
 v53:=Tryz.zeroValue187
 t55:=Tryz.underlying189
 a55:=Tryz.isAgg189
 z55:=Tryz.sizeOf189
 v55:=Tryz.zeroValue189
 t66:=Tryz.underlying207
 a66:=Tryz.isAgg207
 z66:=Tryz.sizeOf207
 v66:=Tryz.zeroValue207
 t70:=Tryz.underlying211
 a70:=Tryz.isAgg211
 z70:=Tryz.sizeOf211
 v70:=Tryz.zeroValue211
 t76:=Tryz.underlying217
 a76:=Tryz.isAgg217
 z76:=Tryz.sizeOf217
 v76:=Tryz.zeroValue217
 t77:=Tryz.underlying146
 a77:=Tryz.isAgg146
 z77:=Tryz.sizeOf146
 v77:=Tryz.zeroValue146 }
open Go.RowKit Go.Lib Go.Sort in
theorem Tryz.slices_SortFunc_none {α:Type} [Inhabited α] (p:Option Addr) (cap:Nat) (fv:Value) (w:World) :
 Calls Tryz.prog 99 #[.slice p 0 cap,fv] w fun e w'=>e=.returned (.tuple #[])/\w'=w:=AnyF.slices_SortFunc_none Tryz.laysSlF06_f23 p cap fv w
def Tryz.laysSlF6_f23_ren:Go.Shelf.Ren:=⟨fun | 6=>99 | 15=>129 | 14=>128 | 28=>162 | 29=>163 | 20=>154 | 21=>155 | 22=>156 | 23=>157 | 24=>158 | 25=>159 | 26=>160 | 27=>161 | 46=>176 | 47=>177 | 48=>178 | 49=>179 | 50=>180 | 57=>184 | n=>n,fun | 22=>30 | 24=>9 | 25=>88 | 3=>3 | 39=>117 | 0=>0 | 53=>187 | 55=>189 | 4=>4 | 46=>181 | 45=>180 | 50=>56 | 5=>5 | 9=>9 | 66=>207 | 70=>211 | 76=>217 | 77=>146 | n=>n,fun | n=>n⟩
theorem Tryz.laysSlF6_f23:Go.Proofs.SlLaysF.n6 Tryz.prog Tryz.laysSlF6_f23_ren:={
 mixed:=by kernel_rfl
 f6:=⟨Tryz.f99.name,by decide,Tryz.func99.trans (congrArg some (by kernel_rfl))⟩
 f14:=⟨Tryz.f128.name,by decide,Tryz.func128.trans (congrArg some (by kernel_rfl))⟩
 f15:=Tryz.func129.trans (congrArg some (by kernel_rfl))
 f20:=⟨Tryz.f154.name,by decide,Tryz.func154.trans (congrArg some (by kernel_rfl))⟩
 f21:=⟨Tryz.f155.name,by decide,Tryz.func155.trans (congrArg some (by kernel_rfl))⟩
 f22:=⟨Tryz.f156.name,by decide,Tryz.func156.trans (congrArg some (by kernel_rfl))⟩
 f23:=⟨Tryz.f157.name,by decide,Tryz.func157.trans (congrArg some (by kernel_rfl))⟩
 f24:=⟨Tryz.f158.name,by decide,Tryz.func158.trans (congrArg some (by kernel_rfl))⟩
 f25:=⟨Tryz.f159.name,by decide,Tryz.func159.trans (congrArg some (by kernel_rfl))⟩
 f26:=⟨Tryz.f160.name,by decide,Tryz.func160.trans (congrArg some (by kernel_rfl))⟩
 f27:=⟨Tryz.f161.name,by decide,Tryz.func161.trans (congrArg some (by kernel_rfl))⟩
 f28:=Tryz.func162.trans (congrArg some (by kernel_rfl))
 f29:=Tryz.func163.trans (congrArg some (by kernel_rfl))
 f46:=⟨Tryz.f176.name,by decide,Tryz.func176.trans (congrArg some (by kernel_rfl))⟩
 f47:=Tryz.func177.trans (congrArg some (by kernel_rfl))
 f48:=Tryz.func178.trans (congrArg some (by kernel_rfl))
 f49:=⟨Tryz.f179.name,by decide,Tryz.func179.trans (congrArg some (by kernel_rfl))⟩
 f50:=⟨Tryz.f180.name,by decide,Tryz.func180.trans (congrArg some (by kernel_rfl))⟩
 f57:=⟨Tryz.f184.name,by decide,Tryz.func184.trans (congrArg some (by kernel_rfl))⟩
 t0:=Tryz.underlying0
 a0:=Tryz.isAgg0
 z0:=Tryz.sizeOf0
 v0:=Tryz.zeroValue0
 t3:=Tryz.underlying3
 a3:=Tryz.isAgg3
 z3:=Tryz.sizeOf3
 v3:=Tryz.zeroValue3
 t4:=Tryz.underlying4
 a4:=Tryz.isAgg4
 z4:=Tryz.sizeOf4
 v4:=Tryz.zeroValue4
 t5:=Tryz.underlying5
 a5:=Tryz.isAgg5
 z5:=Tryz.sizeOf5
 v5:=Tryz.zeroValue5
 t9:=Tryz.underlying9
 a9:=Tryz.isAgg9
 z9:=Tryz.sizeOf9
 v9:=Tryz.zeroValue9
 t22:=Tryz.underlying30
 a22:=Tryz.isAgg30
 z22:=Tryz.sizeOf30
 v22:=Tryz.zeroValue30
 a24:=Tryz.isAgg9
 z24:=Tryz.sizeOf9
 t25:=Tryz.underlying88
 a25:=Tryz.isAgg88
 z25:=Tryz.sizeOf88
 v25:=Tryz.zeroValue88
 t39:=Tryz.underlying117
 a39:=Tryz.isAgg117
 z39:=Tryz.sizeOf117
 v39:=Tryz.zeroValue117
 t45:=Tryz.underlying180
 a45:=Tryz.isAgg180
 z45:=Tryz.sizeOf180
 v45:=Tryz.zeroValue180
 t46:=Tryz.underlying181
 a46:=Tryz.isAgg181
 z46:=Tryz.sizeOf181
 v46:=Tryz.zeroValue181
 t50:=Tryz.underlying56
 a50:=Tryz.isAgg56
 z50:=Tryz.sizeOf56
 v50:=Tryz.zeroValue56
 t53:=Tryz.underlying187
 a53:=Tryz.isAgg187
 z53:=Tryz.sizeOf187
 v53:=Tryz.zeroValue187
 t55:=Tryz.underlying189
 a55:=Tryz.isAgg189
 z55:=Tryz.sizeOf189
 v55:=Tryz.zeroValue189
 t66:=Tryz.underlying207
 a66:=Tryz.isAgg207
 z66:=Tryz.sizeOf207
 v66:=Tryz.zeroValue207
 t70:=Tryz.underlying211
 a70:=Tryz.isAgg211
 z70:=Tryz.sizeOf211
 v70:=Tryz.zeroValue211
 t76:=Tryz.underlying217
 a76:=Tryz.isAgg217
 z76:=Tryz.sizeOf217
 v76:=Tryz.zeroValue217
 t77:=Tryz.underlying146
 a77:=Tryz.isAgg146
 z77:=Tryz.sizeOf146
 v77:=Tryz.zeroValue146 }
open Go.RowKit Go.Lib Go.Sort in
theorem Tryz.slices_SortFunc_total {α:Type} [Inhabited α] (enc:α->Value) (h1:OneCell enc) (cf:α->α->Int) (hO:SWO (ltOf cf)) (g:Nat) (cb:Array Value) (blk off cap:Nat) (d:Array α) (w:World) (eg:∀ args w,(callFunc g args).run Tryz.prog w=.ok (.enter g args) w) (hcmp:CmpLays1 Tryz.prog g cb enc cf blk off d.size w) (hH:Holds enc w blk off d) (hblk:blk<w.heap.size) (hsz:d.size<4611686018427387904) (hT:∀ x y,(ltOf cf) x y=false->(ltOf cf) y x=false->x=y) :
 Calls Tryz.prog 99 #[.slice (some ⟨blk,off,none⟩) d.size cap,.func (.func g) #[] cb] w fun e w' =>
  e=.returned (.tuple #[])/\∃ n os,w'=sortWorld enc w blk off n (d.toList.mergeSort fun x y=>!(ltOf cf) y x).toArray os:=Any.slices_SortFunc_total Tryz.laysSlF6_f23 enc h1 cf hO g cb blk off cap d w eg hcmp hH hblk hsz hT
end Go.Proofs
namespace Go.Proofs.YtbjbjbpgmojcbacGreat
open Go.RowKit Go.Maps
theorem Zrf {w:World} {b o:Nat} {v:Value} (h:w.cell? ⟨b,o,none⟩=some v):b<w.heap.size:=by
 apply Nat.lt_of_not_le;intro hb;rw [World.cell?,Array.getElem?_eq_none hb] at h
 cases h
def Mx (w:World):Prop:=∃ m,w.cell? ⟨0,0,none⟩=some (.int .i64 m)
theorem Mx.below {w w':World} (h:Mx w) (hb:Below w.heap.size w w'):Mx w':=by
 obtain ⟨m,hm⟩:=h;exact ⟨m,by rw [hb.cell (p:=⟨0,0,none⟩) (Zrf hm)];exact hm⟩
theorem Zmu (t p:ByteArray) (w:World) (h:Mx w) (ht:t.size<=4000000000) :
 Calls Tryz.prog 101 #[.string t,.string p] w fun e w'=>e=.returned (.int .i64 (Lib.index t.data.toList p.data.toList))/\w'=w:=by
 obtain ⟨m,hm⟩:=h;exact Tryz.strings_Index t p m w (by omega) hm
theorem Zgn (t p:ByteArray) (w:World) (h:Mx w) (ht:t.size<=4000000000) (hp:0<p.size) :
 Calls Tryz.prog 67 #[.string t,.string p] w fun e w'=>e=.returned (.bool (Tr.st p t))/\w'=w:=by
 obtain ⟨m,hm⟩:=h;rw [<-Tr.ZhB t p hp];exact Tryz.strings_Contains t p m w (by omega) hm
theorem keyS:Keyed Tryz.prog 9:=string_keyed Tryz.underlying9
theorem ZbS (w:World):(zeroValue 3).run Tryz.prog w=.ok (.int .i64 0) w:=by kernel_rfl
namespace Tr
def kl (p:ByteArray):Lit:=.string p.data.toList
theorem ZpG {p q:ByteArray} (h:p ≠ q):kl p ≠ kl q:=by
 intro e;apply h;apply Zbq;rw [ByteArray.toList_eq,ByteArray.toList_eq];exact Lit.string.inj e
theorem ZtW (p:ByteArray):WideAt.IsKeyLit (kl p):=trivial
theorem Zpv (x:List UInt8):(⟨x.toArray⟩:ByteArray).size=x.length:=by show x.toArray.size=_;simp
def i64 (n:Int):DataW Unit:=.lit (.int .i64 n)
def CM (w:World) (b n:Nat) (f:ByteArray->Nat):Prop:=∃ D:DataW Unit,w.ownsMap Tryz.prog 9 (plainElem Tryz.prog 3) b n D/\IsMap D ∧
 (∀ q:ByteArray,q.size=4->D.atKey (kl q) (i64 0)=i64 (f q))/\(∀ x:List UInt8,has D (.string x)=true->x.length=4/\1<=f ⟨x.toArray⟩)
theorem CM.made (w:World):CM (w.alloc (.map #[] 0)) w.heap.size 0 (fun _=>0) :=
 ⟨_,World.ownsMap_made _ _ _ _,isMap_empty,fun _ _=>rfl,fun x h=>by simp [has] at h⟩
theorem CM.same {w:World} {b n m:Nat} {f g:ByteArray->Nat} (h:CM w b n f) (hn:n<=m) (hf:∀ q:ByteArray,q.size=4->f q=g q):CM w b m g:=by
 obtain ⟨D,h1,h2,h3,h4⟩:=h;refine ⟨D,h1.mono hn,h2,fun q hq=>by rw [h3 q hq,hf q hq],fun x hx=>?_⟩;obtain ⟨h5,h6⟩:=h4 x hx;exact ⟨h5,by rw [<-hf ⟨x.toArray⟩ ((Zpv x).trans h5)];exact h6⟩
theorem CM.put {w:World} {b n:Nat} {f g:ByteArray->Nat} {D:DataW Unit} {p:ByteArray} (hp:p.size=4) (h2:IsMap D) (h3:∀ q:ByteArray,q.size=4->D.atKey (kl q) (i64 0)=i64 (f q)) (h4:∀ x:List UInt8,has D (.string x)=true->x.length=4/\1<=f ⟨x.toArray⟩)
 (hown:w.ownsMap Tryz.prog 9 (plainElem Tryz.prog 3) b n (D.put (kl p) (i64 (g p:Nat)))) (hg:g p=f p+1) (hgo:∀ q:ByteArray,q.size=4->q ≠ p->g q=f q):CM w b n g:=by
 refine ⟨_,hown,h2.put _ _,fun q hq=>?_,fun x hx=>?_⟩
 ·by_cases e:q=p
  ·subst e;exact atKey_put_same h2 (ZtW q) _ _
  ·rw [atKey_put_other (ZpG e),h3 q hq,hgo q hq e]
 ·by_cases e:(⟨x.toArray⟩:ByteArray)=p
  ·subst e;exact ⟨(Zpv x).symm.trans hp,by omega⟩
  ·have hne:=ZpG e;have hx2:kl ⟨x.toArray⟩=.string x:=by simp [kl]
   rw [hx2] at hne;rw [has_put_other hne] at hx;obtain ⟨h5,h6⟩:=h4 x hx;exact ⟨h5,by rw [hgo _ ((Zpv x).trans h5) e];exact h6⟩
end Tr
open Go.WideMaps
theorem Zgs (xs:List ByteArray) (b off cap:Nat) (w:World) (hx:Tr.TxAt w b off xs) (hn:xs.length<=12) (hB:∀ i,(Tr.xa xs i).size<=512) (hM:Mx w) :
 Calls Tryz.prog 98 #[.slice (some ⟨b,off,none⟩) xs.length cap] w fun e w'=>e=.returned (.map (some w.heap.size))/\Tr.CM w' w.heap.size 6144 (Tr.ct xs)/\Below w.heap.size w w':=by
 have HX:Hid (∀ w',Tr.TxAt w' b off xs->∀ i,i<xs.length->w'.cell? ⟨b,off+i,none⟩=some (.string (Tr.xa xs i))):=fun w' h=>h.2
 have HB:Hid (∀ i,(Tr.xa xs i).size<=512):=hB;clear hB;have hn':(xs.length:Int)<=12:=by omega
 have hmm:=@run_makeMap Tryz.prog
 have HX0:Hid (∀ w',Below w.heap.size w w'->Tr.TxAt w' b off xs/\Mx w'):=fun w' h=>⟨hx.below h,hM.below h⟩
 go_enter Tryz.func98,Tryz.ntmps98
 go_wp2_with fail
 go_loopw [11] (fun i wr=>∃ k:Nat,k<=xs.length/\i=.int .i64 k/\Tr.CM wr w.heap.size (512*k) (fun q=>Tr.ctK xs q k)/\Tr.TxAt wr b off xs/\Mx wr/\Below w.heap.size w wr) (fun i _=>xs.length - (intOf i).toNat)
 case atStart=>exact ⟨0,by omega,rfl,Tr.CM.made _,hx.below ((bR _ _).alloc (nl _) _),hM.below ((bR _ _).alloc (nl _) _),(bR _ _).alloc (nl _) _⟩
 case round =>
  clear hx hM hmm;obtain ⟨k,hk2,rfl,hC,hx,hM,B1⟩:=hrel;by_cases hlt:k<xs.length
  ·have d1:decide ((k:Int)<(xs.length:Int))=true:=by simp;omega
   have d1':decide (k<xs.length)=true:=by simp;omega
   have hki:(k:Int)<(xs.length:Int):=by omega
   have c1:=HX.out wr hx k hlt;have hXs:=HB.out k
   obtain ⟨X,hX⟩:∃ X,Tr.xa xs k=X:=⟨_,rfl⟩
   rw [hX] at c1 hXs;have HXk:Hid (Tr.xa xs k=X):=hX;clear hX;go_wp2_with fail
   go_loopw [19] (fun i wr2=>∃ j:Nat,j<=X.size - 3/\i=.int .i64 j/\Tr.CM wr2 w.heap.size (512*k+j) (Tr.cn xs k j)/\Tr.TxAt wr2 b off xs/\Mx wr2/\Below w.heap.size w wr2) (fun i _=>X.size - 3 - (intOf i).toNat)
   case atStart=>exact ⟨0,by omega,rfl,hC.same (by omega) (fun q _=>(Tr.Zmg xs k q).symm),hx,hM,B1⟩
   case round =>
    clear c1 hC hx hM B1;obtain ⟨j,hj2,rfl,hC,hx,hM,B1⟩:=hrel;by_cases hjl:j<X.size - 3
    ·have e1:decide ((j:Int)<(X.size:Int) - 4+1)=true:=zdT (by omega);have hji:(j:Int)+4<=(X.size:Int):=by omega
     have hjn:j+4<=X.size:=by omega
     have hj5:(j:Int)<=512:=by omega
     obtain ⟨P,hP⟩:∃ P,X.extract j (j+4)=P:=⟨_,rfl⟩
     have HP:Hid (Tr.pc X j=P):=hP;have hP4:Hid (P.size=4):=by show _=_;rw [<-HP.out];exact Tr.Zeh hjl
     have HI:Hid (decide (Lib.index X.data.toList P.data.toList=(j:Int))=!Tr.stK P X j):=Tr.ZmU X P (by rw [hP4.out];omega) j (by rw [hP4.out];omega) (by rw [hP4.out];exact HP.out);have c2:=Zmu X P _ hM (by omega);generalize Lib.index X.data.toList P.data.toList=r at *
     cases hs:Tr.stK P X j with
     | true =>
      have HN:Hid (∀ q:ByteArray,q.size=4->Tr.cn xs k j q=Tr.cn xs k (j+1) q):=fun q hq=>(Tr.ZqA (by rw [HXk.out,HP.out];exact hs) hq).symm
      have hr:¬ r=(j:Int):=of_decide_eq_false (by rw [HI.out,hs];rfl);have e2:decide (r=(j:Int))=false:=dF hr;have e3:(r == (j:Int))=false:=by simpa using hr
      clear hr hs HI;go_wp2_with fail
      refine c2.mono ?_;rintro e w2 ⟨rfl,rfl⟩;go_wp2_with fail
      go_roundw
      case rel=>exact ⟨j+1,by omega,by go_num,hC.same (by omega) HN.out,hx,hM,B1⟩
      case measure=>simp [intOf];omega
     | false =>
      have HN:Hid (Tr.cn xs k (j+1) P=Tr.cn xs k j P+1):=by
       have:=Tr.ZqC (xs:=xs) (k:=k) (i:=j) (by rw [HXk.out];exact hjl) (by rw [HXk.out,HP.out];exact hs);rw [HXk.out,HP.out] at this;exact this
      have HO:Hid (∀ q:ByteArray,q.size=4->q ≠ P->Tr.cn xs k (j+1) q=Tr.cn xs k j q):=fun q hq hne=>Tr.Zff hq (by rw [HXk.out,HP.out];exact hne)
      have hr:r=(j:Int):=of_decide_eq_true (by rw [HI.out,hs];rfl);subst hr;obtain ⟨D,hown,hD2,hD3,hD4⟩:=hC;have hkey:keyOf Tryz.prog 9 (.string P)=some (Tr.kl P):=keyOf_string_mk U9 (by rw [hP4.out];decide);have hcn:=Tr.ZtJ xs k j P;clear hs HI;go_wp2_with fail
      refine c2.mono ?_;rintro e w2 ⟨rfl,rfl⟩
      obtain ⟨C,hC⟩:∃ C:Nat,Tr.cn xs k j P=C:=⟨_,rfl⟩
      have HC:Hid (Tr.cn xs k j P=C):=hC;rw [hC] at hcn;clear hC;have hci:(C:Int)<=13:=by omega
      have wf1:(Lit.int .i64 ((C:Int)+1)).wf=true:=WalkArith.wf_i64 (by omega)
      have hat0:∀ c:Int,D.atKey (Tr.kl P) (.lit (.int .i64 0))=.lit (.int .i64 c)->c=(C:Int):=by
       intro c h9;have h8:=h9.symm.trans (hD3 P hP4.out);rw [HC.out] at h8;simpa [Tr.i64] using h8
      go_wp2_with (first
       | (at_lookup;refine wpList_lookup_own_int _ rfl _ _ 104 rfl 9 3 .i64 keyS U104 zU3 (ZbS _) w.heap.size (512*k+j) _ rfl hown _ _ rfl hkey ?_;intro c hat hwc;obtain rfl:=hat0 c hat;clear hat hwc)
       | (at_mapUpdate;refine wpList_mapUpdate_own _ rfl _ _ _ 104 rfl 9 3 keyS U104 _ w.heap.size (512*k+j) _ rfl hown (by unfold maxLen;omega) _ _ _ rfl rfl hkey _ [] (plainElem_int zU3 wf1) ?_;intro w1 hown1 hgrow1)
       | fail)
      have hC2:Tr.CM w1 w.heap.size (512*k+(j+1)) (Tr.cn xs k (j+1)):=Tr.CM.put hP4.out hD2 hD3 hD4 (by rw [HN.out,HC.out];exact hown1) HN.out HO.out;have B2:=B1.grown hgrow1 B1.size (fun j hj=>by cases hj;exact nl _);clear hown hown1 hgrow1 B1 hx hM;go_roundw
      case rel=>exact ⟨j+1,by omega,by go_num,hC2,(HX0.out _ B2).1,(HX0.out _ B2).2,B2⟩
      case measure=>simp [intOf];omega
    ·have e1:decide ((j:Int)<(X.size:Int) - 4+1)=false:=dF (by omega);have hC2:Tr.CM wr w.heap.size (512*(k+1)) (fun q=>Tr.ctK xs q (k+1)):=hC.same (by omega) (fun q hq=>Tr.ZqF hq (by rw [HXk.out];omega));clear hC;go_wp2_with fail
     go_roundw
     case rel=>exact ⟨k+1,by omega,by go_num,hC2,hx,hM,B1⟩
     case measure=>simp [intOf];omega
  ·obtain rfl:k=xs.length:=by omega
   have d1:decide ((xs.length:Int)<(xs.length:Int))=false:=by simp
   go_wp2_with fail
   go_ret
   exact ⟨rfl,hC.same (by omega) (fun _ _=>rfl),B1⟩
theorem ZhV (ad:Option Addr) (cap:Nat) (w:World) :
 Calls Tryz.prog 98 #[.slice ad 0 cap] w fun e w'=>e=.returned (.map (some w.heap.size))/\Tr.CM w' w.heap.size 6144 (Tr.ct [])/\Below w.heap.size w w':=by
 have hmm:=@run_makeMap Tryz.prog;go_enter Tryz.func98,Tryz.ntmps98
 go_wp2_with fail
 go_loopw [11] (fun i wr=>i=.int .i64 0/\Tr.CM wr w.heap.size 0 (Tr.ct [])/\Below w.heap.size w wr) (fun i _=>0)
 case atStart=>exact ⟨rfl,Tr.CM.made _,(bR _ _).alloc (nl _) _⟩
 case round =>
  obtain ⟨rfl,hC,B1⟩:=hrel;go_wp2_with fail
  go_ret
  exact ⟨rfl,hC.same (by omega) (fun _ _=>rfl),B1⟩
theorem ZhW (xs:List ByteArray) (ad:Option Addr) (cap:Nat) (w:World) (hx:TxSl w ad xs) (hn:xs.length<=12) (hB:∀ i,(Tr.xa xs i).size<=512) (hM:Mx w) :
 Calls Tryz.prog 98 #[.slice ad xs.length cap] w fun e w'=>e=.returned (.map (some w.heap.size))/\Tr.CM w' w.heap.size 6144 (Tr.ct xs)/\Below w.heap.size w w':=by
 rcases hx with rfl | ⟨b,off,rfl,h2⟩
 ·exact ZhV ad cap w
 ·exact Zgs xs b off cap w h2 hn hB hM
namespace Tr
def cmpf (xs:List ByteArray) (a b:ByteArray):Int:=if ct xs a=ct xs b then Lib.compareBytes a.data.toList b.data.toList else (ct xs b:Int) - (ct xs a:Int)
theorem Zrq (xs:List ByteArray) (a b:ByteArray):decide (cmpf xs a b<0)=lt xs a b:=by
 unfold cmpf lt;by_cases h:ct xs a=ct xs b
 ·rw [if_pos h,Znn];simp [h]
 ·rw [if_neg h];by_cases h2:ct xs b<ct xs a
  ·simp [h2];omega
  ·rw [decide_eq_false h2,Bool.false_or,show (ct xs a == ct xs b)=false from by simpa using h,Bool.false_and];exact dF (by omega)
theorem CM.at_is {xs:List ByteArray} {D:DataW Unit} (h3:∀ q:ByteArray,q.size=4->D.atKey (kl q) (i64 0)=i64 (ct xs q)) (p:ByteArray) (hp:p.size=4) (c:Int) (h9:D.atKey (kl p) (.lit (.int .i64 0))=.lit (.int .i64 c)):c=(ct xs p:Int):=by
 have h8:=h9.symm.trans (h3 p hp);simpa [i64] using h8
end Tr
theorem ZhM (xs:List ByteArray) (hn:xs.length<=12) (a b:ByteArray) (ha:a.size=4) (hb:b.size=4) (bx mb:Nat) (w:World) (hc:w.cell? ⟨bx,0,none⟩=some (.map (some mb))) (hC:Tr.CM w mb 6144 (Tr.ct xs)) :
 Calls Tryz.prog 100 #[.string a,.string b,.pointer (some ⟨bx,0,none⟩)] w fun e w'=>e=.returned (.int .i64 (Tr.cmpf xs a b))/\w'=w:=by
 obtain ⟨D,hown,hD2,hD3,hD4⟩:=hC;have hka:keyOf Tryz.prog 9 (.string a)=some (Tr.kl a):=keyOf_string_mk U9 (by rw [ha];decide);have hkb:keyOf Tryz.prog 9 (.string b)=some (Tr.kl b):=keyOf_string_mk U9 (by rw [hb];decide);have hata:=Tr.CM.at_is hD3 a ha;have hatb:=Tr.CM.at_is hD3 b hb;have l1:=Tr.Zjs xs a xs.length;have l2:=Tr.Zjs xs b xs.length;have c9:=Tryz.strings_Compare a b w;unfold Tr.cmpf
 change Tr.ct xs a<=_ at l1
 change Tr.ct xs b<=_ at l2
 generalize Tr.ct xs a=A at *;generalize Tr.ct xs b=B at *;have hA:(A:Int)<=12:=by omega
 have hB:(B:Int)<=12:=by omega
 clear hD2 hD3 hD4 ha hb;by_cases h:A=B
 ·subst h;rw [if_pos rfl];generalize Lib.compareBytes a.data.toList b.data.toList=r at *;go_enter Tryz.func100,Tryz.ntmps100
  go_wp2_with (first
   | (at_lookup;refine wpList_lookup_own_int _ rfl _ _ 104 rfl 9 3 .i64 keyS U104 zU3 (ZbS _) mb 6144 _ rfl hown _ _ rfl hka ?_;intro c hat hwc;obtain rfl:=hata c hat;clear hat hwc)
   | (at_lookup;refine wpList_lookup_own_int _ rfl _ _ 104 rfl 9 3 .i64 keyS U104 zU3 (ZbS _) mb 6144 _ rfl hown _ _ rfl hkb ?_;intro c hat hwc;obtain rfl:=hatb c hat;clear hat hwc)
   | fail)
  refine c9.mono ?_;rintro e w2 ⟨rfl,rfl⟩;go_wp2_with fail
  go_ret
  exact ⟨rfl,rfl⟩
 ·rw [if_neg h];have h':¬ (A:Int)=(B:Int):=by omega
  have d1:decide ((A:Int)=(B:Int))=false:=dF h';have d2:((A:Int) == (B:Int))=false:=by simpa using h'
  have d3:((A:Int) != (B:Int))=true:=by simpa using h'
  go_enter Tryz.func100,Tryz.ntmps100
  go_wp2_with (first
   | (at_lookup;refine wpList_lookup_own_int _ rfl _ _ 104 rfl 9 3 .i64 keyS U104 zU3 (ZbS _) mb 6144 _ rfl hown _ _ rfl hka ?_;intro c hat hwc;obtain rfl:=hata c hat;clear hat hwc)
   | (at_lookup;refine wpList_lookup_own_int _ rfl _ _ 104 rfl 9 3 .i64 keyS U104 zU3 (ZbS _) mb 6144 _ rfl hown _ _ rfl hkb ?_;intro c hat hwc;obtain rfl:=hatb c hat;clear hat hwc)
   | fail)
  go_ret
  exact ⟨rfl,rfl⟩
open Go.Sort Go.Shelf
namespace Tr
def Got (xs:List ByteArray) (D:DataW Unit) (left:Lit->Bool) (ss:List ByteArray):Prop:=ss.Nodup/\∀ q,q ∈ ss ↔ (has D (kl q)=true/\left (kl q)=false/\2<=ct xs q)
theorem Got.start (xs:List ByteArray) (D:DataW Unit):Got xs D (has D) []:=⟨List.nodup_nil,fun q=>by cases has D (kl q) <;> simp⟩
theorem ZrU (p:ByteArray):(kl p).sameKey (kl p)=true:=by simp [kl,Lit.sameKey]
theorem Got.yes {xs:List ByteArray} {D:DataW Unit} {left:Lit->Bool} {ss:List ByteArray} (h:Got xs D left ss) {x:ByteArray} (hl:left (kl x)=true) (hh:has D (kl x)=true) (h2:2<=ct xs x):Got xs D (fun z=>left z && !z.sameKey (kl x)) (ss++[x]):=by
 refine ⟨?_,fun q=>?_⟩
 ·rw [List.nodup_append];refine ⟨h.1,by simp,fun a ha b hb=>?_⟩;rw [List.mem_singleton] at hb;rintro rfl;subst hb;have:=((h.2 a).1 ha).2.1;rw [hl] at this;cases this
 ·rw [List.mem_append,List.mem_singleton,h.2 q];by_cases e:q=x
  ·subst e;simp [hh,h2,ZrU]
  ·simp [sameKey_ne (ZpG e),e]
theorem Got.no {xs:List ByteArray} {D:DataW Unit} {left:Lit->Bool} {ss:List ByteArray} (h:Got xs D left ss) {x:ByteArray} (h2:ct xs x<2):Got xs D (fun z=>left z && !z.sameKey (kl x)) ss:=by
 refine ⟨h.1,fun q=>?_⟩;rw [h.2 q];by_cases e:q=x
 ·subst e;constructor
  ·rintro ⟨_,_,h3⟩;omega
  ·rintro ⟨_,_,h3⟩;omega
 ·simp [sameKey_ne (ZpG e)]
theorem Got.all {xs:List ByteArray} {D:DataW Unit} {left:Lit->Bool} {ss:List ByteArray} (h:Got xs D left ss) (hl:∀ k,left k=false) (h3:∀ q:ByteArray,q.size=4->D.atKey (kl q) (i64 0)=i64 (ct xs q)) (h4:∀ x:List UInt8,has D (.string x)=true->x.length=4/\1<=ct xs ⟨x.toArray⟩) :
 ∀ q,q ∈ ss ↔ (q.size=4/\2<=ct xs q):=by
 intro q;rw [h.2 q];constructor
 ·rintro ⟨h5,_,h6⟩;have:=(h4 q.data.toList h5).1;exact ⟨by rw [<-this];simp,h6⟩
 ·rintro ⟨h5,h6⟩;refine ⟨?_,hl _,h6⟩
  cases hh:has D (kl q) with
  | true=>rfl
  | false =>
   have h7:=h3 q h5;rw [atKey_of_not_has hh] at h7;simp [i64] at h7;omega
structure Pc where
 val:ByteArray
 four:val.size=4
instance:Inhabited Pc:=⟨⟨⟨#[0,0,0,0]⟩,rfl⟩⟩
theorem Pc.same:∀ {a b:Pc},a.val=b.val->a=b
 | ⟨_,_⟩,⟨_,_⟩,rfl=>rfl
def enc (p:Pc):Value:=.string p.val
def cfp (xs:List ByteArray) (a b:Pc):Int:=cmpf xs a.val b.val
theorem Zcf (xs:List ByteArray) (a b:Pc):ltOf (cfp xs) a b=lt xs a.val b.val:=Zrq xs a.val b.val
theorem swo (xs:List ByteArray):SWO (ltOf (cfp xs)) where
 irrefl x:=by rw [Zcf,ZqM]
 trans x y z h1 h2:=by rw [Zcf] at *;exact lt_trans h1 h2
 ntrans x y z h1 h2:=by rw [Zcf] at *;exact ZgF h1 h2
theorem parts (xs:List ByteArray) (x y:Pc) (h1:ltOf (cfp xs) x y=false) (h2:ltOf (cfp xs) y x=false):x=y:=by
 rw [Zcf] at *;exact Pc.same (ZdL h1 h2)
theorem Zdb {w:World} {g n:Nat} {os:Array Obj} (d:Array Pc):w.grownBy (sortWorld enc w g 0 n d os) (some g):=by
 unfold sortWorld;refine ⟨rfl,rfl,rfl,by simp,fun k hk hne=>?_⟩;rw [heap_grow_old _ _ (by simpa using hk)];have:g ≠ k:=fun e=>hne (by rw [e])
 simp [putRow,mapBlock,Sort.ahead,Array.getElem?_modify,this]
theorem CM.kept {w w':World} {b n:Nat} {f:ByteArray->Nat} {row:Option Nat} (h:CM w b n f) (hg:w.grownBy w' row) (hne:some b ≠ row):CM w' b n f:=by
 obtain ⟨D,h1,h2⟩:=h;exact ⟨D,h1.kept hg hne,h2⟩
theorem Zoa {xs ss:List ByteArray} (h:ss.Nodup) (h4:∀ q,q ∈ ss ↔ (q.size=4/\2<=ct xs q)) (ps:List Pc) (hps:ps.map Pc.val=ss) :
 Rk xs ((ps.mergeSort fun x y=>!ltOf (cfp xs) y x).map Pc.val):=by
 have hperm:=List.mergeSort_perm ps (fun x y=>!ltOf (cfp xs) y x);refine ⟨?_,fun p=>?_⟩
 ·have hs:(ps.mergeSort fun x y=>!ltOf (cfp xs) y x).Pairwise (fun x y=>(!ltOf (cfp xs) y x)=true):=by
   refine List.pairwise_mergeSort ?_ ?_ ps
   ·intro a b c h1 h2;simp only [Bool.not_eq_true',Zcf] at *;exact ZgF h2 h1
   ·intro a b;simp only [Bool.or_eq_true,Bool.not_eq_true',Zcf]
    cases h9:lt xs b.val a.val with
    | false=>exact .inl rfl
    | true=>exact .inr (ZiI h9)
  have hnd:(ps.mergeSort fun x y=>!ltOf (cfp xs) y x).Nodup:=by
   rw [hperm.nodup_iff];subst hps;exact (List.pairwise_map.1 h).imp fun hne e=>hne (congrArg _ e)
  refine List.pairwise_map.2 ?_;refine (hs.and hnd).imp ?_;rintro a b ⟨h1,h2⟩;simp only [Bool.not_eq_true',Zcf] at h1
  cases h9:lt xs a.val b.val with
  | true=>rfl
  | false=>exact absurd (Pc.same (ZdL h9 h1)) h2
 ·rw [<-h4 p,<-hps,List.mem_map,List.mem_map];constructor
  ·rintro ⟨a,h1,h2⟩;exact ⟨a,hperm.mem_iff.1 h1,h2⟩
  ·rintro ⟨a,h1,h2⟩;exact ⟨a,hperm.mem_iff.2 h1,h2⟩
theorem lift:∀ ss:List ByteArray,(∀ q ∈ ss,q.size=4)->∃ ps:List Pc,ps.map Pc.val=ss
 | [],_=>⟨[],rfl⟩
 | a :: ss,h=>by
  obtain ⟨ps,hp⟩:=lift ss (fun q hq=>h q (List.mem_cons_of_mem _ hq));exact ⟨⟨a,h a (List.mem_cons_self ..)⟩ :: ps,by rw [List.map_cons,hp]⟩
def TxFar (lo:Nat) (w:World) (ad:Option Addr) (xs:List ByteArray):Prop:=xs=[]\/∃ b off,ad=some ⟨b,off,none⟩/\lo<=b/\TxAt w b off xs
theorem Zqa {w:World} {g:Nat} {cur:Array Value} {e:TypeId} {ps:List Pc} (hb:w.heap[g]?=some (.cells cur e (0,0))) (ht:cur.toList.take ps.length=ps.map enc):Holds enc w g 0 ps.toArray:=by
 intro j hj;have hj':j<ps.length:=by simpa using hj
 refine ⟨?_,by simp [World.frozen?,hb]⟩;have h1:(cur.toList.take ps.length)[j]?=(ps.map enc)[j]?:=by rw [ht]
 rw [List.getElem?_take_of_lt hj'] at h1;simp only [World.cell?,hb,Nat.zero_add];simp only [Option.isSome_none,Bool.false_eq_true,if_false];rw [<-Array.getElem?_toList,h1];simp [hj']
theorem Zqe {w:World} {g:Nat} {ps:List Pc} (hg:g<w.heap.size) (h:Holds enc w g 0 ps.toArray):TxAt w g 0 (ps.map Pc.val):=by
 refine ⟨hg,fun i hi=>?_⟩;rw [List.length_map] at hi;rw [(h i (by simpa using hi)).1];simp [xa,enc,hi]
end Tr
theorem Zho (xs:List ByteArray) (hn:xs.length<=12) (ps:List Tr.Pc) (hl:ps.length<=6144) (g cap mb bx:Nat) (w:World) (hH:Holds Tr.enc w g 0 ps.toArray) (hg:g<w.heap.size) (hgm:mb ≠ g) (hgb:bx ≠ g)
 (hcx:w.cell? ⟨bx,0,none⟩=some (.map (some mb))) (hC:Tr.CM w mb 6144 (Tr.ct xs)) :
 Calls Tryz.prog 99 #[.slice (some ⟨g,0,none⟩) ps.length cap,.func (.func 100) #[] #[.pointer (some ⟨bx,0,none⟩)]] w fun e w' =>
  e=.returned (.tuple #[])/\Tr.TxAt w' g 0 ((ps.mergeSort fun x y=>!ltOf (Tr.cfp xs) y x).map Tr.Pc.val)/\w.grownBy w' (some g):=by
 have eg:∀ args w,(callFunc 100 args).run Tryz.prog w=.ok (.enter 100 args) w:=enters_of Tryz.func100 (by kernel_rfl) rfl;have hcon:=Tryz.slices_SortFunc_total Tr.enc (fun _=>rfl) (Tr.cfp xs) (Tr.swo xs) 100 #[.pointer (some ⟨bx,0,none⟩)] g 0 cap ps.toArray w eg
  (fun m os dk _ x y=>(ZhM xs hn x.val y.val x.four y.four bx mb _ ((Tr.Zdb dk).cell hcx (by simpa using hgb)) (hC.kept (Tr.Zdb dk) (by simpa using hgm))).mono fun e w' ⟨he,hw⟩=>⟨he,0,#[],by rw [hw,grow_empty];rfl⟩)
  hH hg (by simp;omega) (Tr.parts xs)
 have hs:ps.toArray.size=ps.length:=by simp
 rw [hs] at hcon;refine hcon.mono ?_;rintro e w' ⟨rfl,n,os,rfl⟩;refine ⟨rfl,Tr.Zqe (lt_sortWorld _ _ _ _ _ _ _ hg) (holds_sortWorld Tr.enc w g 0 n ps.toArray _ os hg hH (by simp)),Tr.Zdb _⟩
theorem ZkR (xs:List ByteArray) (ad:Option Addr) (cap:Nat) (w:World) (hx:TxSl w ad xs) (hn:xs.length<=12) (hB:∀ i,(Tr.xa xs i).size<=512) (hM:Mx w) :
 Calls Tryz.prog 64 #[.slice ad xs.length cap] w fun e w'=>∃ ad' cap' L,e=.returned (.slice ad' (L:List ByteArray).length cap')/\L.length<=cap'/\L.length<=6144/\Tr.TxFar w.heap.size w' ad' L/\Tr.Rk xs L/\Below w.heap.size w w':=by
 have c1:=ZhW xs ad cap w hx hn hB hM;clear hB hM hx;obtain ⟨i0,hi,hz0,hz1,hz2⟩:=info_parts (P:=Tryz.prog) (e:=9) (z:=.string ⟨#[]⟩) (size:=1) (bytes:=16) (by kernel_rfl);go_enter Tryz.func64,Tryz.ntmps64
 go_wp2_with fail
 refine c1.mono ?_;rintro e w1 ⟨rfl,⟨D,hown,hD2,hD3,hD4⟩,B1⟩;clear c1;have hs1:w.heap.size<w1.heap.size:=hown.lt
 go_wp2_with (first
  | (at_range;refine wpList_range_own _ rfl _ 104 rfl 9 3 keyS U104 _ w.heap.size 6144 _ rfl (hown.alloc _) ?_;intro w0 hrg0 hg0 hs0)
  | fail)
 go_frame
 have hs9:(w1.alloc (.cells #[.map (some w.heap.size)] 104 (0,0))).heap.size=w1.heap.size+1:=by simp
 have hcx:w0.cell? ⟨w1.heap.size,0,none⟩=some (.map (some w.heap.size)):=hg0.cell (cell_one_new _ _ _ 0 _ rfl) (by simp);have B0:Below w.heap.size w w0:=(B1.alloc B1.size _).grown hg0 (by simp;omega) (fun j hj=>by cases hj);have hz:=hown.size_le;generalize (w1.alloc (.cells #[.map (some w.heap.size)] 104 (0,0))).heap.size=r at hs9 hrg0 hs0 |-
 have hs8:Hid (r=w1.heap.size+1):=hs9;clear hs9
 go_loopw [4] (fun v wr=>∃ (left:Lit->Bool) (cnt:Nat) (ss:List ByteArray),wr.ranges Tryz.prog 9 (plainElem Tryz.prog 3) w.heap.size r 6144 D left cnt/\ss.length+cnt<=6144 ∧
  wr.ownsRow (w1.heap.size+2) 9 1 v ss.length (ss.map Value.string)/\Tr.Got xs D left ss/\wr.cell? ⟨w1.heap.size,0,none⟩=some (.map (some w.heap.size))/\w1.heap.size+2<=wr.heap.size/\Below w.heap.size w wr)
  (fun _ wr=>wr.rangeLeft w.heap.size r)
 case atStart=>exact ⟨_,_,[],hrg0,by simpa using hz,⟨rfl,.inl ⟨rfl,rfl⟩⟩,Tr.Got.start xs D,hcx,by have:=hs8.out;omega,B0⟩
 case round =>
  clear hrg0 hg0 hs0 hcx B0 hz;obtain ⟨left,cnt,ss,hrg,hcs,hrow,hG,hcx,hsz,hnx⟩:=hrel
  go_wp2_with (first
   | (at_next;(refine wpList_next_ranges _ rfl _ rfl 9 keyS (plainElem Tryz.prog 3) Value.string (Value.int .i64) (fun key kl hk=>by obtain ⟨x,hx,_⟩:=Maps.keyOf_str U9 hk;exact ⟨⟨x.toArray⟩,hx⟩) (fun v y hv=>by obtain ⟨c,rfl,_⟩:=plainElem_int_inv zU3 hv;exact ⟨c,rfl⟩) w.heap.size r 6144 _ _ _ rfl hrg ?_ ?_))
   | fail)
  ·intro hc0 hl0;have hall:=hG.all hl0 hD3 hD4;obtain ⟨ps,hps⟩:=Tr.lift ss (fun q hq=>((hall q).1 hq).1);have HR:Hid (Tr.Rk xs ((ps.mergeSort fun x y=>!ltOf (Tr.cfp xs) y x).map Tr.Pc.val)):=Tr.Zoa hG.1 hall ps hps;have hlen:ps.length=ss.length:=by rw [<-hps,List.length_map]
   have hCM:Tr.CM wr w.heap.size 6144 (Tr.ct xs):=⟨D,hrg.owns,hD2,hD3,hD4⟩
   rcases hrow.2 with ⟨hnil,hn0⟩ | ⟨g,cap',cur,hv,hbase,hb,h1,h2,h3,h4⟩
   ·have c2:=fun fv=>Tryz.slices_SortFunc_none (α:=Tr.Pc) none 0 fv wr
    obtain rfl:ps=[]:=lZ.1 (by omega);clear hrow hps hlen hn0 hall hG hrg hcx hCM hown;subst hnil;go_wp2_with fail
    refine (c2 _).mono ?_;rintro e w2 ⟨rfl,rfl⟩;go_wp2_with fail
    go_ret
    exact ⟨none,0,[],rfl,by simp,by simp,.inl rfl,by simpa using HR.out,hnx⟩
   ·have hH:Holds Tr.enc wr g 0 ps.toArray:=Tr.Zqa hb (by rw [hlen,<-Nat.mul_one ss.length,h4,<-hps,List.map_map];rfl);have hgl:g<wr.heap.size:=(aG.1 hb).1;have c2:=Zho xs hn ps (by omega) g cap' w.heap.size w1.heap.size wr hH hgl (by omega) (by omega) hcx hCM;have hll:((ps.mergeSort fun x y=>!ltOf (Tr.cfp xs) y x).map Tr.Pc.val).length=ss.length:=by rw [List.length_map,List.length_mergeSort,hlen]
    rw [hlen] at c2;generalize (ps.mergeSort fun x y=>!ltOf (Tr.cfp xs) y x).map Tr.Pc.val=L at *;have hll':Hid (L.length=ss.length):=hll;clear hrow hps hlen hall hG hrg hcx hCM hown h4 h3 hb hH hll;subst hv;go_wp2_with fail
    refine c2.mono ?_;rintro e w2 ⟨rfl,hT,hgr⟩;have B2:=hnx.grown hgr hnx.size (fun j hj=>by cases hj;omega);go_wp2_with fail
    go_ret
    exact ⟨some ⟨g,0,none⟩,cap',L,by rw [hll'.out];rfl,by rw [hll'.out];exact h1,by rw [hll'.out];omega,.inr ⟨g,0,rfl,by omega,hT⟩,HR.out,B2⟩
  ·intro x c kl yd yp w2 cnt2 hkey hlk hv hat hrg2 hlt hg2 hs2 hen;obtain ⟨x',ex,rfl,_⟩:=Maps.keyOf_str U9 hkey;obtain rfl:x=⟨x'.toArray⟩:=by cases ex;rfl
   have hkx:Lit.string x'=Tr.kl ⟨x'.toArray⟩:=by simp [Tr.kl]
   have hx4:=hD4 x' (has_true_of_atKey hat);rw [hkx] at hlk hrg2 hat;have hh:has D (Tr.kl ⟨x'.toArray⟩)=true:=has_true_of_atKey hat;obtain ⟨c',hc1,hc2,_⟩:=plainElem_int_inv zU3 hv;obtain rfl:c=c':=by cases hc1;rfl
   have hcc:c=(Tr.ct xs ⟨x'.toArray⟩:Int):=Tr.CM.at_is hD3 _ ((Tr.Zpv x').trans hx4.1) c (by rw [hat];cases hc2;rfl);have hrow2:=hrow.kept hg2 (Or.inr (row_ne_iter hrow hrg).symm);have hcx2:=hg2.cell hcx (by simp;have:=hs8.out;omega);have hsz2:w1.heap.size+2<=w2.heap.size:=by omega
   have B2:Below w.heap.size w w2:=hnx.grown hg2 hnx.size (fun j hj=>by cases hj;have:=hs8.out;omega);generalize (⟨x'.toArray⟩:ByteArray)=X at *;clear hs2 hrow hcx hnx hkey hx4 ex hc1 hc2 hv;by_cases h2:2<=Tr.ct xs X
   ·have hci:(2:Int)<=c:=by omega
    have d1:decide ((2:Int)<=c)=true:=zdT hci;have hG2:=hG.yes hlk hh h2;clear hcc hG
    go_wp2_with (first
     | (at_builtin;refine wpList_append_own _ rfl _ _ 30 rfl (w1.heap.size+2) 9 i0 (.string ⟨#[]⟩) 1 16 U30 hi hz0 hz1 hz2 rfl (by decide) _ _ _ rfl (hrow2.alloc _) ⟨w2.heap.size,0,none⟩ 1 1 [.string X] rfl rfl (cell_one_new _ _ _) (by simp [Value.oneCell']) (by unfold maxLen at *;omega) (by omega) (by simp;omega) ?_;intro v' w3 hown' hg3 hnil3;go_frame)
     | fail)
    have hne1:=row_ne_low hrow2 (b:=w.heap.size) (by omega);have hne2:=row_ne_iter hrow2 hrg2;have hne3:=row_ne_low hrow2 (b:=w1.heap.size) (by omega);have hrg3:=(hrg2.alloc (.cells #[.string X] 9 (0,0))).kept hg3 hne1 hne2;have hcx3:=hg3.cell (((World.grownBy_alloc w2 (.cells #[.string X] 9 (0,0)) none).cell hcx2 (by simp))) hne3;have hsz3:w1.heap.size+2<=w3.heap.size:=by have:=hg3.size;simp at this;omega
    have B3:Below w.heap.size w w3:=(B2.alloc B2.size (.cells #[.string X] 9 (0,0))).grown hg3 (by simp;omega) (fun j hj=>by have:=(hrow2.lt j hj).1;omega);go_roundw
    case rel=>exact ⟨_,cnt2,ss++[X],hrg3,by simp;omega,by simpa using hown',hG2,hcx3,hsz3,B3⟩
    case measure=>rw [hrg3.left_eq,hrg.left_eq];exact hlt
   ·have hci:¬ (2:Int)<=c:=by omega
    have d1:decide ((2:Int)<=c)=false:=dF hci;have hG2:=hG.no (x:=X) (by omega);clear hcc hG;go_wp2_with fail
    go_roundw
    case rel=>exact ⟨_,cnt2,ss,hrg2,by omega,hrow2,hG2,hcx2,hsz2,B2⟩
    case measure=>rw [hrg2.left_eq,hrg.left_eq];exact hlt
end Go.Proofs.YtbjbjbpgmojcbacGreat
