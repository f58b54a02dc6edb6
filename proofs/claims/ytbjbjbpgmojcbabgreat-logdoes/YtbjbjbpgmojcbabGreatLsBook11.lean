/- A part of the proof: what it leans on. -/
import Derived.Shelf.Small.Strs
import Derived.Shelf.LaysM
import Derived.Shelf.Strings.Search3
import Derived.Shelf.Strings.Shaped
import Derived.Shelf.SlSortCmp.NoneTotal
import Derived.Maps.OwnSet
import Derived.Maps.OwnOps
import Derived.Maps.RangeWalk
import Derived.Sort.OwnSorted
import Derived.Sort.KeysCollected
import Derived.OwnWalk
import Derived.Deep.AppendLies
import Derived.Test.YtbjbjbpgmojcbabGreatLsBook01
import Derived.Test.YtbjbjbpgmojcbabGreatLsBook10
set_option maxRecDepth 8000
set_option maxHeartbeats 4000000
namespace Go.Proofs
open Go.Shelf
def Tryz.lays106_ren:Go.Shelf.Ren:=⟨fun | 106=>90 | 213=>126 | 265=>154 | n=>n,fun | 9=>9 | 3=>3 | n=>n,fun | n=>n⟩
theorem Tryz.lays106:Go.Proofs.Lays.n106 Tryz.prog Tryz.lays106_ren:={
 mixed:=by kernel_rfl
 f106:=Tryz.func90.trans (congrArg some (by kernel_rfl))
 f213:=Tryz.func126.trans (congrArg some (by kernel_rfl))
 f265:=Tryz.func154.trans (congrArg some (by kernel_rfl))
 t3:=Tryz.underlying3
 a3:=Tryz.isAgg3
 z3:=Tryz.sizeOf3
 v3:=Tryz.zeroValue3
 t9:=Tryz.underlying9
 a9:=Tryz.isAgg9
 z9:=Tryz.sizeOf9
 v9:=Tryz.zeroValue9 }
open Go.RowKit in
theorem Tryz.strings_Compare (a b:ByteArray) (w:World) :
 Calls Tryz.prog 90 #[.string a,.string b] w fun e w'=>e=.returned (.int .i64 (Lib.compareBytes a.data.toList b.data.toList))/\w'=w:=Any.strings_Compare Tryz.lays106 a b w
def Tryz.lays143_ren:Go.Shelf.Ren:=⟨fun | 143=>149 | 219=>173 | 217=>201 | 225=>202 | 224=>203 | 267=>204 | 266=>216 | 314=>217 | n=>n,fun | 9=>9 | 3=>3 | 4=>4 | 5=>5 | 46=>150 | 146=>235 | 51=>217 | n=>n,fun | 1=>0 | n=>n⟩
theorem Tryz.lays143:Go.Proofs.Lays.n143 Tryz.prog Tryz.lays143_ren:={
 mixed:=by kernel_rfl
 f143:=Tryz.func149.trans (congrArg some (by kernel_rfl))
 f217:=Tryz.func201.trans (congrArg some (by kernel_rfl))
 f219:=Tryz.func173.trans (congrArg some (by kernel_rfl))
 f224:=Tryz.func203.trans (congrArg some (by kernel_rfl))
 f225:=Tryz.func202.trans (congrArg some (by kernel_rfl))
 f266:=Tryz.func216.trans (congrArg some (by kernel_rfl))
 f267:=Tryz.func204.trans (congrArg some (by kernel_rfl))
 f314:=Tryz.func217.trans (congrArg some (by kernel_rfl))
 t3:=Tryz.underlying3
 a3:=Tryz.isAgg3
 z3:=Tryz.sizeOf3
 v3:=Tryz.zeroValue3
 t4:=Tryz.underlying4
 a4:=Tryz.isAgg4
 z4:=Tryz.sizeOf4
 v4:=Tryz.zeroValue4
 t5:=Tryz.underlying5
 a5:=Tryz.isAgg5
 z5:=Tryz.sizeOf5
 v5:=Tryz.zeroValue5
 t9:=Tryz.underlying9
 a9:=Tryz.isAgg9
 z9:=Tryz.sizeOf9
 v9:=Tryz.zeroValue9
 t46:=Tryz.underlying150
 a46:=Tryz.isAgg150
 z46:=Tryz.sizeOf150
 v46:=Tryz.zeroValue150
 t51:=Tryz.underlying217
 a51:=Tryz.isAgg217
 z51:=Tryz.sizeOf217
 v51:=Tryz.zeroValue217
 t146:=Tryz.underlying235
 a146:=Tryz.isAgg235
 z146:=Tryz.sizeOf235
 v146:=Tryz.zeroValue235
 g1:=by kernel_rfl }
open Go.Lib
theorem Tryz.strings_Index (s sub:ByteArray) (m:Int) (w:World) (hs:s.size<4294967281) (hm:w.cell? ⟨0,0,none⟩=some (.int .i64 m)) :
 Calls Tryz.prog 149 #[.string s,.string sub] w fun e w'=>e=.returned (.int .i64 (Lib.index s.data.toList sub.data.toList))/\w'=w:=Any.strings_Index Tryz.lays143 s sub m w hs hm
def Tryz.lays144_ren:Go.Shelf.Ren:=⟨fun | 144=>107 | 143=>149 | 219=>173 | 217=>201 | 225=>202 | 224=>203 | 267=>204 | 266=>216 | 314=>217 | n=>n,fun | 9=>9 | 4=>4 | 3=>3 | 5=>5 | 46=>150 | 146=>235 | 51=>217 | n=>n,fun | 1=>0 | n=>n⟩
theorem Tryz.lays144:Go.Proofs.Lays.n144 Tryz.prog Tryz.lays144_ren:={
 mixed:=by kernel_rfl
 f143:=Tryz.func149.trans (congrArg some (by kernel_rfl))
 f144:=Tryz.func107.trans (congrArg some (by kernel_rfl))
 f217:=Tryz.func201.trans (congrArg some (by kernel_rfl))
 f219:=Tryz.func173.trans (congrArg some (by kernel_rfl))
 f224:=Tryz.func203.trans (congrArg some (by kernel_rfl))
 f225:=Tryz.func202.trans (congrArg some (by kernel_rfl))
 f266:=Tryz.func216.trans (congrArg some (by kernel_rfl))
 f267:=Tryz.func204.trans (congrArg some (by kernel_rfl))
 f314:=Tryz.func217.trans (congrArg some (by kernel_rfl))
 t3:=Tryz.underlying3
 a3:=Tryz.isAgg3
 z3:=Tryz.sizeOf3
 v3:=Tryz.zeroValue3
 t4:=Tryz.underlying4
 a4:=Tryz.isAgg4
 z4:=Tryz.sizeOf4
 v4:=Tryz.zeroValue4
 t5:=Tryz.underlying5
 a5:=Tryz.isAgg5
 z5:=Tryz.sizeOf5
 v5:=Tryz.zeroValue5
 t9:=Tryz.underlying9
 a9:=Tryz.isAgg9
 z9:=Tryz.sizeOf9
 v9:=Tryz.zeroValue9
 t46:=Tryz.underlying150
 a46:=Tryz.isAgg150
 z46:=Tryz.sizeOf150
 v46:=Tryz.zeroValue150
 t51:=Tryz.underlying217
 a51:=Tryz.isAgg217
 z51:=Tryz.sizeOf217
 v51:=Tryz.zeroValue217
 t146:=Tryz.underlying235
 a146:=Tryz.isAgg235
 z146:=Tryz.sizeOf235
 v146:=Tryz.zeroValue235
 g1:=by kernel_rfl }
theorem Tryz.strings_Contains (s sub:ByteArray) (m:Int) (w:World) (hs:s.size<4294967281) (hm:w.cell? ⟨0,0,none⟩=some (.int .i64 m)) :
 Calls Tryz.prog 107 #[.string s,.string sub] w fun e w'=>e=.returned (.bool (Lib.contains s.data.toList sub.data.toList))/\w'=w:=Any.strings_Contains Tryz.lays144 s sub m w hs hm
def Tryz.laysM144_ren:Go.Shelf.Ren:=⟨fun | 144=>107 | 143=>149 | 219=>173 | 217=>201 | 225=>202 | 224=>203 | 267=>204 | 266=>216 | 314=>217 | n=>n,fun | 9=>9 | 4=>4 | 3=>3 | 5=>5 | 46=>150 | 146=>235 | 51=>217 | n=>n,fun | 1=>0 | n=>n⟩
theorem Tryz.laysM144:Go.Proofs.LaysM.n144 Tryz.prog Tryz.laysM144_ren:={
 mixed:=by kernel_rfl
 f143:=Tryz.func149.trans (congrArg some (by kernel_rfl))
 f144:=Tryz.func107.trans (congrArg some (by kernel_rfl))
 f217:=Tryz.func201.trans (congrArg some (by kernel_rfl))
 f219:=Tryz.func173.trans (congrArg some (by kernel_rfl))
 f224:=Tryz.func203.trans (congrArg some (by kernel_rfl))
 f225:=Tryz.func202.trans (congrArg some (by kernel_rfl))
 f266:=Tryz.func216.trans (congrArg some (by kernel_rfl))
 f267:=Tryz.func204.trans (congrArg some (by kernel_rfl))
 f314:=Tryz.func217.trans (congrArg some (by kernel_rfl))
 t3:=Tryz.underlying3
 a3:=Tryz.isAgg3
 z3:=Tryz.sizeOf3
 v3:=Tryz.zeroValue3
 t4:=Tryz.underlying4
 a4:=Tryz.isAgg4
 z4:=Tryz.sizeOf4
 v4:=Tryz.zeroValue4
 t5:=Tryz.underlying5
 a5:=Tryz.isAgg5
 z5:=Tryz.sizeOf5
 v5:=Tryz.zeroValue5
 t9:=Tryz.underlying9
 a9:=Tryz.isAgg9
 z9:=Tryz.sizeOf9
 v9:=Tryz.zeroValue9
 t46:=Tryz.underlying150
 a46:=Tryz.isAgg150
 z46:=Tryz.sizeOf150
 v46:=Tryz.zeroValue150
 t51:=Tryz.underlying217
 a51:=Tryz.isAgg217
 z51:=Tryz.sizeOf217
 v51:=Tryz.zeroValue217
 t146:=Tryz.underlying235
 a146:=Tryz.isAgg235
 z146:=Tryz.sizeOf235
 v146:=Tryz.zeroValue235
 g1:=by kernel_rfl
 i3:=by kernel_rfl
 i4:=by kernel_rfl
 i5:=by kernel_rfl
 i9:=by kernel_rfl
 i46:=by kernel_rfl
 i51:=by kernel_rfl
 i146:=by kernel_rfl
 m1:=by kernel_rfl
 s1_3:=fun w h=>Go.Proofs.cell_of_shapedOpen_int (zero:=#[.int .i64 0]) (t:=3) h (of_decide_eq_true (by kernel_rfl)) (by kernel_rfl) rfl (by kernel_rfl) (by kernel_rfl) Tryz.underlying3 }
theorem Tryz.strings_Contains_shaped (s sub:ByteArray) (w:World) (h:w.ShapedOpen Tryz.prog) (hs:s.size<4294967281) :
 Calls Tryz.prog 107 #[.string s,.string sub] w fun e w'=>e=.returned (.bool (Lib.contains s.data.toList sub.data.toList))/\w'=w:=Any.strings_Contains_shaped Tryz.laysM144 s sub w h hs
def Tryz.laysSlF06_f23_ren:Go.Shelf.Ren:=⟨fun | 6=>147 | 15=>172 | 14=>171 | 28=>199 | 29=>200 | 20=>191 | 21=>192 | 22=>193 | 23=>194 | 24=>195 | 25=>196 | 26=>197 | 27=>198 | 46=>211 | 47=>212 | 48=>213 | 49=>214 | 50=>215 | 57=>218 | n=>n,fun | 22=>22 | 24=>9 | 25=>119 | 3=>3 | 39=>150 | 0=>0 | 53=>217 | 55=>219 | 4=>4 | 46=>211 | 45=>210 | 50=>71 | 5=>5 | 9=>9 | 66=>229 | 70=>233 | 76=>238 | 77=>176 | n=>n,fun | n=>n⟩
theorem Tryz.laysSlF06_f23:Go.Proofs.SlLaysF0.n6 Tryz.prog Tryz.laysSlF06_f23_ren:={
 mixed:=by kernel_rfl
 f6:=⟨Tryz.f147.name,by decide,Tryz.func147.trans (congrArg some (by kernel_rfl))⟩
 f14:=⟨Tryz.f171.name,by decide,Tryz.func171.trans (congrArg some (by kernel_rfl))⟩
 f15:=Tryz.func172.trans (congrArg some (by kernel_rfl))
 f20:=⟨Tryz.f191.name,by decide,Tryz.func191.trans (congrArg some (by kernel_rfl))⟩
 f21:=⟨Tryz.f192.name,by decide,Tryz.func192.trans (congrArg some (by kernel_rfl))⟩
 f22:=⟨Tryz.f193.name,by decide,Tryz.func193.trans (congrArg some (by kernel_rfl))⟩
 f23:=⟨Tryz.f194.name,by decide,Tryz.func194.trans (congrArg some (by kernel_rfl))⟩
 f24:=⟨Tryz.f195.name,by decide,Tryz.func195.trans (congrArg some (by kernel_rfl))⟩
 f25:=⟨Tryz.f196.name,by decide,Tryz.func196.trans (congrArg some (by kernel_rfl))⟩
 f26:=⟨Tryz.f197.name,by decide,Tryz.func197.trans (congrArg some (by kernel_rfl))⟩
 f27:=⟨Tryz.f198.name,by decide,Tryz.func198.trans (congrArg some (by kernel_rfl))⟩
 f28:=Tryz.func199.trans (congrArg some (by kernel_rfl))
 f29:=Tryz.func200.trans (congrArg some (by kernel_rfl))
 f46:=⟨Tryz.f211.name,by decide,Tryz.func211.trans (congrArg some (by kernel_rfl))⟩
 f47:=Tryz.func212.trans (congrArg some (by kernel_rfl))
 f48:=Tryz.func213.trans (congrArg some (by kernel_rfl))
 f49:=⟨Tryz.f214.name,by decide,Tryz.func214.trans (congrArg some (by kernel_rfl))⟩
 f50:=⟨Tryz.f215.name,by decide,Tryz.func215.trans (congrArg some (by kernel_rfl))⟩
 f57:=⟨Tryz.f218.name,by decide,Tryz.func218.trans (congrArg some (by kernel_rfl))⟩
 t0:=Tryz.underlying0
 a0:=Tryz.isAgg0
 z0:=Tryz.sizeOf0
 v0:=Tryz.zeroValue0
 t3:=Tryz.underlying3
 a3:=Tryz.isAgg3
 z3:=Tryz.sizeOf3
 v3:=Tryz.zeroValue3
 t4:=Tryz.underlying4
 a4:=Tryz.isAgg4
 z4:=Tryz.sizeOf4
 v4:=Tryz.zeroValue4
 t5:=Tryz.underlying5
 a5:=Tryz.isAgg5
 z5:=Tryz.sizeOf5
 v5:=Tryz.zeroValue5
 t9:=Tryz.underlying9
 a9:=Tryz.isAgg9
 z9:=Tryz.sizeOf9
 v9:=Tryz.zeroValue9
 t22:=Tryz.underlying22
 a22:=Tryz.isAgg22
 z22:=Tryz.sizeOf22
 v22:=Tryz.zeroValue22
 t25:=Tryz.underlying119
 a25:=Tryz.isAgg119
 z25:=Tryz.sizeOf119
 v25:=Tryz.zeroValue119
 t39:=Tryz.underlying150
 a39:=Tryz.isAgg150
 z39:=Tryz.sizeOf150
 v39:=Tryz.zeroValue150
 t45:=Tryz.underlying210
 a45:=Tryz.isAgg210
 z45:=Tryz.sizeOf210
 v45:=Tryz.zeroValue210
 t46:=Tryz.underlying211
 a46:=Tryz.isAgg211
 z46:=Tryz.sizeOf211
 v46:=Tryz.zeroValue211
 t50:=Tryz.underlying71
 a50:=Tryz.isAgg71
 z50:=Tryz.sizeOf71
 v50:=Tryz.zeroValue71
 t53:=Tryz.underlying217
 a53:=Tryz.isAgg217
 z53:=Tryz.sizeOf217
 v53:=Tryz.zeroValue217
 t55:=Tryz.underlying219
 a55:=Tryz.isAgg219
 z55:=Tryz.sizeOf219
 v55:=Tryz.zeroValue219
 t66:=Tryz.underlying229
 a66:=Tryz.isAgg229
 z66:=Tryz.sizeOf229
 v66:=Tryz.zeroValue229
 t70:=Tryz.underlying233
 a70:=Tryz.isAgg233
 z70:=Tryz.sizeOf233
 v70:=Tryz.zeroValue233
 t76:=Tryz.underlying238
 a76:=Tryz.isAgg238
 z76:=Tryz.sizeOf238
 v76:=Tryz.zeroValue238
 t77:=Tryz.underlying176
 a77:=Tryz.isAgg176
 z77:=Tryz.sizeOf176
 v77:=Tryz.zeroValue176 }
open Go.Sort
theorem Tryz.slices_SortFunc_none {α:Type} [Inhabited α] (p:Option Addr) (cap:Nat) (fv:Value) (w:World) :
 Calls Tryz.prog 147 #[.slice p 0 cap,fv] w fun e w'=>e=.returned (.tuple #[])/\w'=w:=AnyF.slices_SortFunc_none Tryz.laysSlF06_f23 p cap fv w
def Tryz.laysSlF6_f23_ren:Go.Shelf.Ren:=⟨fun | 6=>147 | 15=>172 | 14=>171 | 28=>199 | 29=>200 | 20=>191 | 21=>192 | 22=>193 | 23=>194 | 24=>195 | 25=>196 | 26=>197 | 27=>198 | 46=>211 | 47=>212 | 48=>213 | 49=>214 | 50=>215 | 57=>218 | n=>n,fun | 22=>22 | 24=>9 | 25=>119 | 3=>3 | 39=>150 | 0=>0 | 53=>217 | 55=>219 | 4=>4 | 46=>211 | 45=>210 | 50=>71 | 5=>5 | 9=>9 | 66=>229 | 70=>233 | 76=>238 | 77=>176 | n=>n,fun | n=>n⟩
theorem Tryz.laysSlF6_f23:Go.Proofs.SlLaysF.n6 Tryz.prog Tryz.laysSlF6_f23_ren:={
 mixed:=by kernel_rfl
 f6:=⟨Tryz.f147.name,by decide,Tryz.func147.trans (congrArg some (by kernel_rfl))⟩
 f14:=⟨Tryz.f171.name,by decide,Tryz.func171.trans (congrArg some (by kernel_rfl))⟩
 f15:=Tryz.func172.trans (congrArg some (by kernel_rfl))
 f20:=⟨Tryz.f191.name,by decide,Tryz.func191.trans (congrArg some (by kernel_rfl))⟩
 f21:=⟨Tryz.f192.name,by decide,Tryz.func192.trans (congrArg some (by kernel_rfl))⟩
 f22:=⟨Tryz.f193.name,by decide,Tryz.func193.trans (congrArg some (by kernel_rfl))⟩
 f23:=⟨Tryz.f194.name,by decide,Tryz.func194.trans (congrArg some (by kernel_rfl))⟩
 f24:=⟨Tryz.f195.name,by decide,Tryz.func195.trans (congrArg some (by kernel_rfl))⟩
 f25:=⟨Tryz.f196.name,by decide,Tryz.func196.trans (congrArg some (by kernel_rfl))⟩
 f26:=⟨Tryz.f197.name,by decide,Tryz.func197.trans (congrArg some (by kernel_rfl))⟩
 f27:=⟨Tryz.f198.name,by decide,Tryz.func198.trans (congrArg some (by kernel_rfl))⟩
 f28:=Tryz.func199.trans (congrArg some (by kernel_rfl))
 f29:=Tryz.func200.trans (congrArg some (by kernel_rfl))
 f46:=⟨Tryz.f211.name,by decide,Tryz.func211.trans (congrArg some (by kernel_rfl))⟩
 f47:=Tryz.func212.trans (congrArg some (by kernel_rfl))
 f48:=Tryz.func213.trans (congrArg some (by kernel_rfl))
 f49:=⟨Tryz.f214.name,by decide,Tryz.func214.trans (congrArg some (by kernel_rfl))⟩
 f50:=⟨Tryz.f215.name,by decide,Tryz.func215.trans (congrArg some (by kernel_rfl))⟩
 f57:=⟨Tryz.f218.name,by decide,Tryz.func218.trans (congrArg some (by kernel_rfl))⟩
 t0:=Tryz.underlying0
 a0:=Tryz.isAgg0
 z0:=Tryz.sizeOf0
 v0:=Tryz.zeroValue0
 t3:=Tryz.underlying3
 a3:=Tryz.isAgg3
 z3:=Tryz.sizeOf3
 v3:=Tryz.zeroValue3
 t4:=Tryz.underlying4
 a4:=Tryz.isAgg4
 z4:=Tryz.sizeOf4
 v4:=Tryz.zeroValue4
 t5:=Tryz.underlying5
 a5:=Tryz.isAgg5
 z5:=Tryz.sizeOf5
 v5:=Tryz.zeroValue5
 t9:=Tryz.underlying9
 a9:=Tryz.isAgg9
 z9:=Tryz.sizeOf9
 v9:=Tryz.zeroValue9
 t22:=Tryz.underlying22
 a22:=Tryz.isAgg22
 z22:=Tryz.sizeOf22
 v22:=Tryz.zeroValue22
 a24:=Tryz.isAgg9
 z24:=Tryz.sizeOf9
 t25:=Tryz.underlying119
 a25:=Tryz.isAgg119
 z25:=Tryz.sizeOf119
 v25:=Tryz.zeroValue119
 t39:=Tryz.underlying150
 a39:=Tryz.isAgg150
 z39:=Tryz.sizeOf150
 v39:=Tryz.zeroValue150
 t45:=Tryz.underlying210
 a45:=Tryz.isAgg210
 z45:=Tryz.sizeOf210
 v45:=Tryz.zeroValue210
 t46:=Tryz.underlying211
 a46:=Tryz.isAgg211
 z46:=Tryz.sizeOf211
 v46:=Tryz.zeroValue211
 t50:=Tryz.underlying71
 a50:=Tryz.isAgg71
 z50:=Tryz.sizeOf71
 v50:=Tryz.zeroValue71
 t53:=Tryz.underlying217
 a53:=Tryz.isAgg217
 z53:=Tryz.sizeOf217
 v53:=Tryz.zeroValue217
 t55:=Tryz.underlying219
 a55:=Tryz.isAgg219
 z55:=Tryz.sizeOf219
 v55:=Tryz.zeroValue219
 t66:=Tryz.underlying229
 a66:=Tryz.isAgg229
 z66:=Tryz.sizeOf229
 v66:=Tryz.zeroValue229
 t70:=Tryz.underlying233
 a70:=Tryz.isAgg233
 z70:=Tryz.sizeOf233
 v70:=Tryz.zeroValue233
 t76:=Tryz.underlying238
 a76:=Tryz.isAgg238
 z76:=Tryz.sizeOf238
 v76:=Tryz.zeroValue238
 t77:=Tryz.underlying176
 a77:=Tryz.isAgg176
 z77:=Tryz.sizeOf176
 v77:=Tryz.zeroValue176 }
theorem Tryz.slices_SortFunc_total {α:Type} [Inhabited α] (enc:α->Value) (h1:OneCell enc) (cf:α->α->Int) (hO:SWO (ltOf cf)) (g:Nat) (cb:Array Value) (blk off cap:Nat) (d:Array α) (w:World) (eg:∀ args w,(callFunc g args).run Tryz.prog w=.ok (.enter g args) w) (hcmp:CmpLays1 Tryz.prog g cb enc cf blk off d.size w) (hH:Holds enc w blk off d) (hblk:blk<w.heap.size) (hsz:d.size<4611686018427387904) (hT:∀ x y,(ltOf cf) x y=false->(ltOf cf) y x=false->x=y) :
 Calls Tryz.prog 147 #[.slice (some ⟨blk,off,none⟩) d.size cap,.func (.func g) #[] cb] w fun e w' =>
  e=.returned (.tuple #[])/\∃ n os,w'=sortWorld enc w blk off n (d.toList.mergeSort fun x y=>!(ltOf cf) y x).toArray os:=Any.slices_SortFunc_total Tryz.laysSlF6_f23 enc h1 cf hO g cb blk off cap d w eg hcmp hH hblk hsz hT
end Go.Proofs
namespace Go.Proofs.YtbjbjbpgmojcbabGreat
open Go.Maps
theorem ZrQ {w:World} {b o:Nat} {v:Value} (h:w.cell? ⟨b,o,none⟩=some v):b<w.heap.size:=by
 apply Nat.lt_of_not_le;intro hb;rw [World.cell?,Array.getElem?_eq_none hb] at h
 cases h
def Mx (w:World):Prop:=∃ m,w.cell? ⟨0,0,none⟩=some (.int .i64 m)
theorem Mx.below {w w':World} (h:Mx w) (hb:Below w.heap.size w w'):Mx w':=by
 obtain ⟨m,hm⟩:=h;exact ⟨m,by rw [hb.cell (p:=⟨0,0,none⟩) (ZrQ hm)];exact hm⟩
theorem Zod (t p:ByteArray) (w:World) (h:Mx w) (ht:t.size<=4000000000) :
 Calls Tryz.prog 149 #[.string t,.string p] w fun e w'=>e=.returned (.int .i64 (Lib.index t.data.toList p.data.toList))/\w'=w:=by
 obtain ⟨m,hm⟩:=h;exact Tryz.strings_Index t p m w (by omega) hm
theorem Zhx (t p:ByteArray) (w:World) (h:Mx w) (ht:t.size<=4000000000) (hp:0<p.size) :
 Calls Tryz.prog 107 #[.string t,.string p] w fun e w'=>e=.returned (.bool (Tr.st p t))/\w'=w:=by
 obtain ⟨m,hm⟩:=h;rw [<-Tr.Ziv t p hp];exact Tryz.strings_Contains t p m w (by omega) hm
theorem keyS:Keyed Tryz.prog 9:=string_keyed Tryz.underlying9
theorem ZbW (w:World):(zeroValue 3).run Tryz.prog w=.ok (.int .i64 0) w:=by kernel_rfl
namespace Tr
def kl (p:ByteArray):Lit:=.string p.data.toList
theorem Zqh {p q:ByteArray} (h:p ≠ q):kl p ≠ kl q:=by
 intro e;apply h;apply Zbr;rw [ByteArray.toList_eq,ByteArray.toList_eq];exact Lit.string.inj e
theorem ZuG (p:ByteArray):WideAt.IsKeyLit (kl p):=trivial
theorem Zqq (x:List UInt8):(⟨x.toArray⟩:ByteArray).size=x.length:=by show x.toArray.size=_;simp
def i64 (n:Int):DataW Unit:=.lit (.int .i64 n)
def CM (w:World) (b n:Nat) (f:ByteArray->Nat):Prop:=∃ D:DataW Unit,w.ownsMap Tryz.prog 9 (plainElem Tryz.prog 3) b n D/\IsMap D ∧
 (∀ q:ByteArray,q.size=4->D.atKey (kl q) (i64 0)=i64 (f q))/\(∀ x:List UInt8,has D (.string x)=true->x.length=4/\1<=f ⟨x.toArray⟩)
theorem CM.made (w:World):CM (w.alloc (.map #[] 0)) w.heap.size 0 (fun _=>0) :=
 ⟨_,World.ownsMap_made _ _ _ _,isMap_empty,fun _ _=>rfl,fun x h=>by simp [has] at h⟩
theorem CM.same {w:World} {b n m:Nat} {f g:ByteArray->Nat} (h:CM w b n f) (hn:n<=m) (hf:∀ q:ByteArray,q.size=4->f q=g q):CM w b m g:=by
 obtain ⟨D,h1,h2,h3,h4⟩:=h;refine ⟨D,h1.mono hn,h2,fun q hq=>by rw [h3 q hq,hf q hq],fun x hx=>?_⟩;obtain ⟨h5,h6⟩:=h4 x hx;exact ⟨h5,by rw [<-hf ⟨x.toArray⟩ ((Zqq x).trans h5)];exact h6⟩
theorem CM.put {w:World} {b n:Nat} {f g:ByteArray->Nat} {D:DataW Unit} {p:ByteArray} (hp:p.size=4) (h2:IsMap D) (h3:∀ q:ByteArray,q.size=4->D.atKey (kl q) (i64 0)=i64 (f q)) (h4:∀ x:List UInt8,has D (.string x)=true->x.length=4/\1<=f ⟨x.toArray⟩)
 (hown:w.ownsMap Tryz.prog 9 (plainElem Tryz.prog 3) b n (D.put (kl p) (i64 (g p:Nat)))) (hg:g p=f p+1) (hgo:∀ q:ByteArray,q.size=4->q ≠ p->g q=f q):CM w b n g:=by
 refine ⟨_,hown,h2.put _ _,fun q hq=>?_,fun x hx=>?_⟩
 ·by_cases e:q=p
  ·subst e;exact atKey_put_same h2 (ZuG q) _ _
  ·rw [atKey_put_other (Zqh e),h3 q hq,hgo q hq e]
 ·by_cases e:(⟨x.toArray⟩:ByteArray)=p
  ·subst e;exact ⟨(Zqq x).symm.trans hp,by omega⟩
  ·have hne:=Zqh e;have hx2:kl ⟨x.toArray⟩=.string x:=by simp [kl]
   rw [hx2] at hne;rw [has_put_other hne] at hx;obtain ⟨h5,h6⟩:=h4 x hx;exact ⟨h5,by rw [hgo _ ((Zqq x).trans h5) e];exact h6⟩
end Tr
open Go.WideMaps
theorem ZhH (xs:List ByteArray) (b off cap:Nat) (w:World) (hx:Tr.TxAt w b off xs) (hn:xs.length<=12) (hB:∀ i,(Tr.xa xs i).size<=512) (hM:Mx w) :
 Calls Tryz.prog 146 #[.slice (some ⟨b,off,none⟩) xs.length cap] w fun e w'=>e=.returned (.map (some w.heap.size))/\Tr.CM w' w.heap.size 6144 (Tr.ct xs)/\Below w.heap.size w w':=by
 have HX:Hid (∀ w',Tr.TxAt w' b off xs->∀ i,i<xs.length->w'.cell? ⟨b,off+i,none⟩=some (.string (Tr.xa xs i))):=fun w' h=>h.2
 have HB:Hid (∀ i,(Tr.xa xs i).size<=512):=hB;clear hB;have hn':(xs.length:Int)<=12:=by omega
 have hmm:=@run_makeMap Tryz.prog
 have HX0:Hid (∀ w',Below w.heap.size w w'->Tr.TxAt w' b off xs/\Mx w'):=fun w' h=>⟨hx.below h,hM.below h⟩
 go_enter Tryz.func146,Tryz.ntmps146
 go_wp2_with fail
 go_loopw [11] (fun i wr=>∃ k:Nat,k<=xs.length/\i=.int .i64 k/\Tr.CM wr w.heap.size (512*k) (fun q=>Tr.ctK xs q k)/\Tr.TxAt wr b off xs/\Mx wr/\Below w.heap.size w wr) (fun i _=>xs.length - (intOf i).toNat)
 case atStart=>exact ⟨0,by omega,rfl,Tr.CM.made _,hx.below ((bR _ _).alloc (nl _) _),hM.below ((bR _ _).alloc (nl _) _),(bR _ _).alloc (nl _) _⟩
 case round =>
  clear hx hM hmm;obtain ⟨k,hk2,rfl,hC,hx,hM,B1⟩:=hrel;by_cases hlt:k<xs.length
  ·have d1:decide ((k:Int)<(xs.length:Int))=true:=by simp;omega
   have d1':decide (k<xs.length)=true:=by simp;omega
   have hki:(k:Int)<(xs.length:Int):=by omega
   have c1:=HX.out wr hx k hlt;have hXs:=HB.out k
   obtain ⟨X,hX⟩:∃ X,Tr.xa xs k=X:=⟨_,rfl⟩
   rw [hX] at c1 hXs;have HXk:Hid (Tr.xa xs k=X):=hX;clear hX;go_wp2_with fail
   go_loopw [19] (fun i wr2=>∃ j:Nat,j<=X.size - 3/\i=.int .i64 j/\Tr.CM wr2 w.heap.size (512*k+j) (Tr.cn xs k j)/\Tr.TxAt wr2 b off xs/\Mx wr2/\Below w.heap.size w wr2) (fun i _=>X.size - 3 - (intOf i).toNat)
   case atStart=>exact ⟨0,by omega,rfl,hC.same (by omega) (fun q _=>(Tr.ZoA xs k q).symm),hx,hM,B1⟩
   case round =>
    clear c1 hC hx hM B1;obtain ⟨j,hj2,rfl,hC,hx,hM,B1⟩:=hrel;by_cases hjl:j<X.size - 3
    ·have e1:decide ((j:Int)<(X.size:Int) - 4+1)=true:=zdT (by omega);have hji:(j:Int)+4<=(X.size:Int):=by omega
     have hjn:j+4<=X.size:=by omega
     have hj5:(j:Int)<=512:=by omega
     obtain ⟨P,hP⟩:∃ P,X.extract j (j+4)=P:=⟨_,rfl⟩
     have HP:Hid (Tr.pc X j=P):=hP;have hP4:Hid (P.size=4):=by show _=_;rw [<-HP.out];exact Tr.Zet hjl
     have HI:Hid (decide (Lib.index X.data.toList P.data.toList=(j:Int))=!Tr.stK P X j):=Tr.ZnD X P (by rw [hP4.out];omega) j (by rw [hP4.out];omega) (by rw [hP4.out];exact HP.out);have c2:=Zod X P _ hM (by omega);generalize Lib.index X.data.toList P.data.toList=r at *
     cases hs:Tr.stK P X j with
     | true =>
      have HN:Hid (∀ q:ByteArray,q.size=4->Tr.cn xs k j q=Tr.cn xs k (j+1) q):=fun q hq=>(Tr.Zrl (by rw [HXk.out,HP.out];exact hs) hq).symm
      have hr:¬ r=(j:Int):=of_decide_eq_false (by rw [HI.out,hs];rfl);have e2:decide (r=(j:Int))=false:=decide_eq_false hr;have e3:(r == (j:Int))=false:=by simpa using hr
      clear hr hs HI;go_wp2_with fail
      refine c2.mono ?_;rintro e w2 ⟨rfl,rfl⟩;go_wp2_with fail
      go_roundw
      case rel=>exact ⟨j+1,by omega,by go_num,hC.same (by omega) HN.out,hx,hM,B1⟩
      case measure=>simp [intOf];omega
     | false =>
      have HN:Hid (Tr.cn xs k (j+1) P=Tr.cn xs k j P+1):=by
       have:=Tr.ZrG (xs:=xs) (k:=k) (i:=j) (by rw [HXk.out];exact hjl) (by rw [HXk.out,HP.out];exact hs);rw [HXk.out,HP.out] at this;exact this
      have HO:Hid (∀ q:ByteArray,q.size=4->q ≠ P->Tr.cn xs k (j+1) q=Tr.cn xs k j q):=fun q hq hne=>Tr.Zgb hq (by rw [HXk.out,HP.out];exact hne)
      have hr:r=(j:Int):=of_decide_eq_true (by rw [HI.out,hs];rfl);subst hr;obtain ⟨D,hown,hD2,hD3,hD4⟩:=hC;have hkey:keyOf Tryz.prog 9 (.string P)=some (Tr.kl P):=keyOf_string_mk Tryz.underlying9 (by rw [hP4.out];decide);have hcn:=Tr.ZuP xs k j P;clear hs HI;go_wp2_with fail
      refine c2.mono ?_;rintro e w2 ⟨rfl,rfl⟩
      obtain ⟨C,hC⟩:∃ C:Nat,Tr.cn xs k j P=C:=⟨_,rfl⟩
      have HC:Hid (Tr.cn xs k j P=C):=hC;rw [hC] at hcn;clear hC;have hci:(C:Int)<=13:=by omega
      have wf1:(Lit.int .i64 ((C:Int)+1)).wf=true:=WalkArith.wf_i64 (by omega)
      have hat0:∀ c:Int,D.atKey (Tr.kl P) (.lit (.int .i64 0))=.lit (.int .i64 c)->c=(C:Int):=by
       intro c h9;have h8:=h9.symm.trans (hD3 P hP4.out);rw [HC.out] at h8;simpa [Tr.i64] using h8
      go_wp2_with (first
       | (at_lookup;refine wpList_lookup_own_int _ rfl _ _ 140 rfl 9 3 .i64 keyS Tryz.underlying140 Tryz.underlying3 (ZbW _) w.heap.size (512*k+j) _ rfl hown _ _ rfl hkey ?_;intro c hat hwc;obtain rfl:=hat0 c hat;clear hat hwc)
       | (at_mapUpdate;refine wpList_mapUpdate_own _ rfl _ _ _ 140 rfl 9 3 keyS Tryz.underlying140 _ w.heap.size (512*k+j) _ rfl hown (by unfold maxLen;omega) _ _ _ rfl rfl hkey _ [] (plainElem_int Tryz.underlying3 wf1) ?_;intro w1 hown1 hgrow1)
       | fail)
      have hC2:Tr.CM w1 w.heap.size (512*k+(j+1)) (Tr.cn xs k (j+1)):=Tr.CM.put hP4.out hD2 hD3 hD4 (by rw [HN.out,HC.out];exact hown1) HN.out HO.out;have B2:=B1.grown hgrow1 B1.size (fun j hj=>by cases hj;exact nl _);clear hown hown1 hgrow1 B1 hx hM;go_roundw
      case rel=>exact ⟨j+1,by omega,by go_num,hC2,(HX0.out _ B2).1,(HX0.out _ B2).2,B2⟩
      case measure=>simp [intOf];omega
    ·have e1:decide ((j:Int)<(X.size:Int) - 4+1)=false:=dF (by omega);have hC2:Tr.CM wr w.heap.size (512*(k+1)) (fun q=>Tr.ctK xs q (k+1)):=hC.same (by omega) (fun q hq=>Tr.Zrj hq (by rw [HXk.out];omega));clear hC;go_wp2_with fail
     go_roundw
     case rel=>exact ⟨k+1,by omega,by go_num,hC2,hx,hM,B1⟩
     case measure=>simp [intOf];omega
  ·obtain rfl:k=xs.length:=by omega
   have d1:decide ((xs.length:Int)<(xs.length:Int))=false:=by simp
   go_wp2_with fail
   go_ret
   exact ⟨rfl,hC.same (by omega) (fun _ _=>rfl),B1⟩
theorem ZhY (ad:Option Addr) (cap:Nat) (w:World) :
 Calls Tryz.prog 146 #[.slice ad 0 cap] w fun e w'=>e=.returned (.map (some w.heap.size))/\Tr.CM w' w.heap.size 6144 (Tr.ct [])/\Below w.heap.size w w':=by
 have hmm:=@run_makeMap Tryz.prog;go_enter Tryz.func146,Tryz.ntmps146
 go_wp2_with fail
 go_loopw [11] (fun i wr=>i=.int .i64 0/\Tr.CM wr w.heap.size 0 (Tr.ct [])/\Below w.heap.size w wr) (fun i _=>0)
 case atStart=>exact ⟨rfl,Tr.CM.made _,(bR _ _).alloc (nl _) _⟩
 case round =>
  obtain ⟨rfl,hC,B1⟩:=hrel;go_wp2_with fail
  go_ret
  exact ⟨rfl,hC.same (by omega) (fun _ _=>rfl),B1⟩
theorem ZiA (xs:List ByteArray) (ad:Option Addr) (cap:Nat) (w:World) (hx:TxSl w ad xs) (hn:xs.length<=12) (hB:∀ i,(Tr.xa xs i).size<=512) (hM:Mx w) :
 Calls Tryz.prog 146 #[.slice ad xs.length cap] w fun e w'=>e=.returned (.map (some w.heap.size))/\Tr.CM w' w.heap.size 6144 (Tr.ct xs)/\Below w.heap.size w w':=by
 rcases hx with rfl | ⟨b,off,rfl,h2⟩
 ·exact ZhY ad cap w
 ·exact ZhH xs b off cap w h2 hn hB hM
namespace Tr
def cmpf (xs:List ByteArray) (a b:ByteArray):Int:=if ct xs a=ct xs b then Lib.compareBytes a.data.toList b.data.toList else (ct xs b:Int) - (ct xs a:Int)
theorem Ztw (xs:List ByteArray) (a b:ByteArray):decide (cmpf xs a b<0)=lt xs a b:=by
 unfold cmpf lt;by_cases h:ct xs a=ct xs b
 ·rw [if_pos h,ZnR];simp [h]
 ·rw [if_neg h];by_cases h2:ct xs b<ct xs a
  ·simp [h2];omega
  ·rw [decide_eq_false h2,Bool.false_or,show (ct xs a == ct xs b)=false from by simpa using h,Bool.false_and];exact decide_eq_false (by omega)
theorem CM.at_is {xs:List ByteArray} {D:DataW Unit} (h3:∀ q:ByteArray,q.size=4->D.atKey (kl q) (i64 0)=i64 (ct xs q)) (p:ByteArray) (hp:p.size=4) (c:Int) (h9:D.atKey (kl p) (.lit (.int .i64 0))=.lit (.int .i64 c)):c=(ct xs p:Int):=by
 have h8:=h9.symm.trans (h3 p hp);simpa [i64] using h8
end Tr
theorem ZiU (xs:List ByteArray) (hn:xs.length<=12) (a b:ByteArray) (ha:a.size=4) (hb:b.size=4) (bx mb:Nat) (w:World) (hc:w.cell? ⟨bx,0,none⟩=some (.map (some mb))) (hC:Tr.CM w mb 6144 (Tr.ct xs)) :
 Calls Tryz.prog 148 #[.string a,.string b,.pointer (some ⟨bx,0,none⟩)] w fun e w'=>e=.returned (.int .i64 (Tr.cmpf xs a b))/\w'=w:=by
 obtain ⟨D,hown,hD2,hD3,hD4⟩:=hC;have hka:keyOf Tryz.prog 9 (.string a)=some (Tr.kl a):=keyOf_string_mk Tryz.underlying9 (by rw [ha];decide);have hkb:keyOf Tryz.prog 9 (.string b)=some (Tr.kl b):=keyOf_string_mk Tryz.underlying9 (by rw [hb];decide);have hata:=Tr.CM.at_is hD3 a ha;have hatb:=Tr.CM.at_is hD3 b hb;have l1:=Tr.ZjN xs a xs.length;have l2:=Tr.ZjN xs b xs.length;have c9:=Tryz.strings_Compare a b w;unfold Tr.cmpf
 change Tr.ct xs a<=_ at l1
 change Tr.ct xs b<=_ at l2
 generalize Tr.ct xs a=A at *;generalize Tr.ct xs b=B at *;have hA:(A:Int)<=12:=by omega
 have hB:(B:Int)<=12:=by omega
 clear hD2 hD3 hD4 ha hb;by_cases h:A=B
 ·subst h;rw [if_pos rfl];generalize Lib.compareBytes a.data.toList b.data.toList=r at *;go_enter Tryz.func148,Tryz.ntmps148
  go_wp2_with (first
   | (at_lookup;refine wpList_lookup_own_int _ rfl _ _ 140 rfl 9 3 .i64 keyS Tryz.underlying140 Tryz.underlying3 (ZbW _) mb 6144 _ rfl hown _ _ rfl hka ?_;intro c hat hwc;obtain rfl:=hata c hat;clear hat hwc)
   | (at_lookup;refine wpList_lookup_own_int _ rfl _ _ 140 rfl 9 3 .i64 keyS Tryz.underlying140 Tryz.underlying3 (ZbW _) mb 6144 _ rfl hown _ _ rfl hkb ?_;intro c hat hwc;obtain rfl:=hatb c hat;clear hat hwc)
   | fail)
  refine c9.mono ?_;rintro e w2 ⟨rfl,rfl⟩;go_wp2_with fail
  go_ret
  exact ⟨rfl,rfl⟩
 ·rw [if_neg h];have h':¬ (A:Int)=(B:Int):=by omega
  have d1:decide ((A:Int)=(B:Int))=false:=decide_eq_false h';have d2:((A:Int) == (B:Int))=false:=by simpa using h'
  have d3:((A:Int) != (B:Int))=true:=by simpa using h'
  go_enter Tryz.func148,Tryz.ntmps148
  go_wp2_with (first
   | (at_lookup;refine wpList_lookup_own_int _ rfl _ _ 140 rfl 9 3 .i64 keyS Tryz.underlying140 Tryz.underlying3 (ZbW _) mb 6144 _ rfl hown _ _ rfl hka ?_;intro c hat hwc;obtain rfl:=hata c hat;clear hat hwc)
   | (at_lookup;refine wpList_lookup_own_int _ rfl _ _ 140 rfl 9 3 .i64 keyS Tryz.underlying140 Tryz.underlying3 (ZbW _) mb 6144 _ rfl hown _ _ rfl hkb ?_;intro c hat hwc;obtain rfl:=hatb c hat;clear hat hwc)
   | fail)
  go_ret
  exact ⟨rfl,rfl⟩
namespace Tr
def Got (xs:List ByteArray) (D:DataW Unit) (left:Lit->Bool) (ss:List ByteArray):Prop:=ss.Nodup/\∀ q,q ∈ ss ↔ (has D (kl q)=true/\left (kl q)=false/\2<=ct xs q)
theorem Got.start (xs:List ByteArray) (D:DataW Unit):Got xs D (has D) []:=⟨List.nodup_nil,fun q=>by cases has D (kl q) <;> simp⟩
theorem Ztr (p:ByteArray):(kl p).sameKey (kl p)=true:=by simp [kl,Lit.sameKey]
theorem Got.yes {xs:List ByteArray} {D:DataW Unit} {left:Lit->Bool} {ss:List ByteArray} (h:Got xs D left ss) {x:ByteArray} (hl:left (kl x)=true) (hh:has D (kl x)=true) (h2:2<=ct xs x):Got xs D (fun z=>left z && !z.sameKey (kl x)) (ss++[x]):=by
 refine ⟨?_,fun q=>?_⟩
 ·rw [List.nodup_append];refine ⟨h.1,by simp,fun a ha b hb=>?_⟩;rw [List.mem_singleton] at hb;rintro rfl;subst hb;have:=((h.2 a).1 ha).2.1;rw [hl] at this;cases this
 ·rw [List.mem_append,List.mem_singleton,h.2 q];by_cases e:q=x
  ·subst e;simp [hh,h2,Ztr]
  ·simp [sameKey_ne (Zqh e),e]
theorem Got.no {xs:List ByteArray} {D:DataW Unit} {left:Lit->Bool} {ss:List ByteArray} (h:Got xs D left ss) {x:ByteArray} (h2:ct xs x<2):Got xs D (fun z=>left z && !z.sameKey (kl x)) ss:=by
 refine ⟨h.1,fun q=>?_⟩;rw [h.2 q];by_cases e:q=x
 ·subst e;constructor
  ·rintro ⟨_,_,h3⟩;omega
  ·rintro ⟨_,_,h3⟩;omega
 ·simp [sameKey_ne (Zqh e)]
theorem Got.all {xs:List ByteArray} {D:DataW Unit} {left:Lit->Bool} {ss:List ByteArray} (h:Got xs D left ss) (hl:∀ k,left k=false) (h3:∀ q:ByteArray,q.size=4->D.atKey (kl q) (i64 0)=i64 (ct xs q)) (h4:∀ x:List UInt8,has D (.string x)=true->x.length=4/\1<=ct xs ⟨x.toArray⟩) :
 ∀ q,q ∈ ss ↔ (q.size=4/\2<=ct xs q):=by
 intro q;rw [h.2 q];constructor
 ·rintro ⟨h5,_,h6⟩;have:=(h4 q.data.toList h5).1;exact ⟨by rw [<-this];simp,h6⟩
 ·rintro ⟨h5,h6⟩;refine ⟨?_,hl _,h6⟩
  cases hh:has D (kl q) with
  | true=>rfl
  | false =>
   have h7:=h3 q h5;rw [atKey_of_not_has hh] at h7;simp [i64] at h7;omega
structure Pc where
 val:ByteArray
 four:val.size=4
instance:Inhabited Pc:=⟨⟨⟨#[0,0,0,0]⟩,rfl⟩⟩
theorem Pc.same:∀ {a b:Pc},a.val=b.val->a=b
 | ⟨_,_⟩,⟨_,_⟩,rfl=>rfl
def enc (p:Pc):Value:=.string p.val
def cfp (xs:List ByteArray) (a b:Pc):Int:=cmpf xs a.val b.val
theorem Zcr (xs:List ByteArray) (a b:Pc):ltOf (cfp xs) a b=lt xs a.val b.val:=Ztw xs a.val b.val
theorem swo (xs:List ByteArray):SWO (ltOf (cfp xs)) where
 irrefl x:=by rw [Zcr,Zrw]
 trans x y z h1 h2:=by rw [Zcr] at *;exact lt_trans h1 h2
 ntrans x y z h1 h2:=by rw [Zcr] at *;exact ZhD h1 h2
theorem parts (xs:List ByteArray) (x y:Pc) (h1:ltOf (cfp xs) x y=false) (h2:ltOf (cfp xs) y x=false):x=y:=by
 rw [Zcr] at *;exact Pc.same (ZdZ h1 h2)
theorem Zdl {w:World} {g n:Nat} {os:Array Obj} (d:Array Pc):w.grownBy (sortWorld enc w g 0 n d os) (some g):=by
 unfold sortWorld;refine ⟨rfl,rfl,rfl,by simp,fun k hk hne=>?_⟩;rw [heap_grow_old _ _ (by simpa using hk)];have:g ≠ k:=fun e=>hne (by rw [e])
 simp [putRow,mapBlock,Sort.ahead,Array.getElem?_modify,this]
theorem CM.kept {w w':World} {b n:Nat} {f:ByteArray->Nat} {row:Option Nat} (h:CM w b n f) (hg:w.grownBy w' row) (hne:some b ≠ row):CM w' b n f:=by
 obtain ⟨D,h1,h2⟩:=h;exact ⟨D,h1.kept hg hne,h2⟩
theorem ZnW {xs ss:List ByteArray} (h:ss.Nodup) (h4:∀ q,q ∈ ss ↔ (q.size=4/\2<=ct xs q)) (ps:List Pc) (hps:ps.map Pc.val=ss) :
 Rk xs ((ps.mergeSort fun x y=>!ltOf (cfp xs) y x).map Pc.val):=by
 have hperm:=List.mergeSort_perm ps (fun x y=>!ltOf (cfp xs) y x);refine ⟨?_,fun p=>?_⟩
 ·have hs:(ps.mergeSort fun x y=>!ltOf (cfp xs) y x).Pairwise (fun x y=>(!ltOf (cfp xs) y x)=true):=by
   refine List.pairwise_mergeSort ?_ ?_ ps
   ·intro a b c h1 h2;simp only [Bool.not_eq_true',Zcr] at *;exact ZhD h2 h1
   ·intro a b;simp only [Bool.or_eq_true,Bool.not_eq_true',Zcr]
    cases h9:lt xs b.val a.val with
    | false=>exact .inl rfl
    | true=>exact .inr (ZjQ h9)
  have hnd:(ps.mergeSort fun x y=>!ltOf (cfp xs) y x).Nodup:=by
   rw [hperm.nodup_iff];subst hps;exact (List.pairwise_map.1 h).imp fun hne e=>hne (congrArg _ e)
  refine List.pairwise_map.2 ?_;refine (hs.and hnd).imp ?_;rintro a b ⟨h1,h2⟩;simp only [Bool.not_eq_true',Zcr] at h1
  cases h9:lt xs a.val b.val with
  | true=>rfl
  | false=>exact absurd (Pc.same (ZdZ h9 h1)) h2
 ·rw [<-h4 p,<-hps,List.mem_map,List.mem_map];constructor
  ·rintro ⟨a,h1,h2⟩;exact ⟨a,hperm.mem_iff.1 h1,h2⟩
  ·rintro ⟨a,h1,h2⟩;exact ⟨a,hperm.mem_iff.2 h1,h2⟩
theorem lift:∀ ss:List ByteArray,(∀ q ∈ ss,q.size=4)->∃ ps:List Pc,ps.map Pc.val=ss
 | [],_=>⟨[],rfl⟩
 | a :: ss,h=>by
  obtain ⟨ps,hp⟩:=lift ss (fun q hq=>h q (List.mem_cons_of_mem _ hq));exact ⟨⟨a,h a (List.mem_cons_self ..)⟩ :: ps,by rw [List.map_cons,hp]⟩
def TxFar (lo:Nat) (w:World) (ad:Option Addr) (xs:List ByteArray):Prop:=xs=[]\/∃ b off,ad=some ⟨b,off,none⟩/\lo<=b/\TxAt w b off xs
theorem ZoR {w:World} {g:Nat} {cur:Array Value} {e:TypeId} {ps:List Pc} (hb:w.heap[g]?=some (.cells cur e (0,0))) (ht:cur.toList.take ps.length=ps.map enc):Holds enc w g 0 ps.toArray:=by
 intro j hj;have hj':j<ps.length:=by simpa using hj
 refine ⟨?_,by simp [World.frozen?,hb]⟩;have h1:(cur.toList.take ps.length)[j]?=(ps.map enc)[j]?:=by rw [ht]
 rw [List.getElem?_take_of_lt hj'] at h1;simp only [World.cell?,hb,Nat.zero_add];simp only [Option.isSome_none,Bool.false_eq_true,if_false];rw [<-Array.getElem?_toList,h1];simp [hj']
theorem ZoU {w:World} {g:Nat} {ps:List Pc} (hg:g<w.heap.size) (h:Holds enc w g 0 ps.toArray):TxAt w g 0 (ps.map Pc.val):=by
 refine ⟨hg,fun i hi=>?_⟩;rw [List.length_map] at hi;rw [(h i (by simpa using hi)).1];simp [xa,enc,hi]
end Tr
theorem ZgM (xs:List ByteArray) (hn:xs.length<=12) (ps:List Tr.Pc) (hl:ps.length<=6144) (g cap mb bx:Nat) (w:World) (hH:Holds Tr.enc w g 0 ps.toArray) (hg:g<w.heap.size) (hgm:mb ≠ g) (hgb:bx ≠ g)
 (hcx:w.cell? ⟨bx,0,none⟩=some (.map (some mb))) (hC:Tr.CM w mb 6144 (Tr.ct xs)) :
 Calls Tryz.prog 147 #[.slice (some ⟨g,0,none⟩) ps.length cap,.func (.func 148) #[] #[.pointer (some ⟨bx,0,none⟩)]] w fun e w' =>
  e=.returned (.tuple #[])/\Tr.TxAt w' g 0 ((ps.mergeSort fun x y=>!ltOf (Tr.cfp xs) y x).map Tr.Pc.val)/\w.grownBy w' (some g):=by
 have eg:∀ args w,(callFunc 148 args).run Tryz.prog w=.ok (.enter 148 args) w:=enters_of Tryz.func148 (by kernel_rfl) rfl;have hcon:=Tryz.slices_SortFunc_total Tr.enc (fun _=>rfl) (Tr.cfp xs) (Tr.swo xs) 148 #[.pointer (some ⟨bx,0,none⟩)] g 0 cap ps.toArray w eg
  (fun m os dk _ x y=>(ZiU xs hn x.val y.val x.four y.four bx mb _ ((Tr.Zdl dk).cell hcx (by simpa using hgb)) (hC.kept (Tr.Zdl dk) (by simpa using hgm))).mono fun e w' ⟨he,hw⟩=>⟨he,0,#[],by rw [hw,grow_empty];rfl⟩)
  hH hg (by simp;omega) (Tr.parts xs)
 have hs:ps.toArray.size=ps.length:=by simp
 rw [hs] at hcon;refine hcon.mono ?_;rintro e w' ⟨rfl,n,os,rfl⟩;refine ⟨rfl,Tr.ZoU (lt_sortWorld _ _ _ _ _ _ _ hg) (holds_sortWorld Tr.enc w g 0 n ps.toArray _ os hg hH (by simp)),Tr.Zdl _⟩
theorem ZkV (xs:List ByteArray) (ad:Option Addr) (cap:Nat) (w:World) (hx:TxSl w ad xs) (hn:xs.length<=12) (hB:∀ i,(Tr.xa xs i).size<=512) (hM:Mx w) :
 Calls Tryz.prog 104 #[.slice ad xs.length cap] w fun e w'=>∃ ad' cap' L,e=.returned (.slice ad' (L:List ByteArray).length cap')/\L.length<=cap'/\L.length<=6144/\Tr.TxFar w.heap.size w' ad' L/\Tr.Rk xs L/\Below w.heap.size w w':=by
 have c1:=ZiA xs ad cap w hx hn hB hM;clear hB hM hx;obtain ⟨i0,hi,hz0,hz1,hz2⟩:=info_parts (P:=Tryz.prog) (e:=9) (z:=.string ⟨#[]⟩) (size:=1) (bytes:=16) (by kernel_rfl);go_enter Tryz.func104,Tryz.ntmps104
 go_wp2_with fail
 refine c1.mono ?_;rintro e w1 ⟨rfl,⟨D,hown,hD2,hD3,hD4⟩,B1⟩;clear c1;have hs1:w.heap.size<w1.heap.size:=hown.lt
 go_wp2_with (first
  | (at_range;refine wpList_range_own _ rfl _ 140 rfl 9 3 keyS Tryz.underlying140 _ w.heap.size 6144 _ rfl (hown.alloc _) ?_;intro w0 hrg0 hg0 hs0)
  | fail)
 go_frame
 have hs9:(w1.alloc (.cells #[.map (some w.heap.size)] 140 (0,0))).heap.size=w1.heap.size+1:=by simp
 have hcx:w0.cell? ⟨w1.heap.size,0,none⟩=some (.map (some w.heap.size)):=hg0.cell (cell_one_new _ _ _ 0 _ rfl) (by simp);have B0:Below w.heap.size w w0:=(B1.alloc B1.size _).grown hg0 (by simp;omega) (fun j hj=>by cases hj);have hz:=hown.size_le;generalize (w1.alloc (.cells #[.map (some w.heap.size)] 140 (0,0))).heap.size=r at hs9 hrg0 hs0 |-
 have hs8:Hid (r=w1.heap.size+1):=hs9;clear hs9
 go_loopw [4] (fun v wr=>∃ (left:Lit->Bool) (cnt:Nat) (ss:List ByteArray),wr.ranges Tryz.prog 9 (plainElem Tryz.prog 3) w.heap.size r 6144 D left cnt/\ss.length+cnt<=6144 ∧
  wr.ownsRow (w1.heap.size+2) 9 1 v ss.length (ss.map Value.string)/\Tr.Got xs D left ss/\wr.cell? ⟨w1.heap.size,0,none⟩=some (.map (some w.heap.size))/\w1.heap.size+2<=wr.heap.size/\Below w.heap.size w wr)
  (fun _ wr=>wr.rangeLeft w.heap.size r)
 case atStart=>exact ⟨_,_,[],hrg0,by simpa using hz,⟨rfl,.inl ⟨rfl,rfl⟩⟩,Tr.Got.start xs D,hcx,by have:=hs8.out;omega,B0⟩
 case round =>
  clear hrg0 hg0 hs0 hcx B0 hz;obtain ⟨left,cnt,ss,hrg,hcs,hrow,hG,hcx,hsz,hnx⟩:=hrel
  go_wp2_with (first
   | (at_next;(refine wpList_next_ranges _ rfl _ rfl 9 keyS (plainElem Tryz.prog 3) Value.string (Value.int .i64) (fun key kl hk=>by obtain ⟨x,hx,_⟩:=Maps.keyOf_str Tryz.underlying9 hk;exact ⟨⟨x.toArray⟩,hx⟩) (fun v y hv=>by obtain ⟨c,rfl,_⟩:=plainElem_int_inv Tryz.underlying3 hv;exact ⟨c,rfl⟩) w.heap.size r 6144 _ _ _ rfl hrg ?_ ?_))
   | fail)
  ·intro hc0 hl0;have hall:=hG.all hl0 hD3 hD4;obtain ⟨ps,hps⟩:=Tr.lift ss (fun q hq=>((hall q).1 hq).1);have HR:Hid (Tr.Rk xs ((ps.mergeSort fun x y=>!ltOf (Tr.cfp xs) y x).map Tr.Pc.val)):=Tr.ZnW hG.1 hall ps hps;have hlen:ps.length=ss.length:=by rw [<-hps,List.length_map]
   have hCM:Tr.CM wr w.heap.size 6144 (Tr.ct xs):=⟨D,hrg.owns,hD2,hD3,hD4⟩
   rcases hrow.2 with ⟨hnil,hn0⟩ | ⟨g,cap',cur,hv,hbase,hb,h1,h2,h3,h4⟩
   ·have c2:=fun fv=>Tryz.slices_SortFunc_none (α:=Tr.Pc) none 0 fv wr
    obtain rfl:ps=[]:=List.length_eq_zero_iff.1 (by omega);clear hrow hps hlen hn0 hall hG hrg hcx hCM hown;subst hnil;go_wp2_with fail
    refine (c2 _).mono ?_;rintro e w2 ⟨rfl,rfl⟩;go_wp2_with fail
    go_ret
    exact ⟨none,0,[],rfl,by simp,by simp,.inl rfl,by simpa using HR.out,hnx⟩
   ·have hH:Holds Tr.enc wr g 0 ps.toArray:=Tr.ZoR hb (by rw [hlen,<-Nat.mul_one ss.length,h4,<-hps,List.map_map];rfl);have hgl:g<wr.heap.size:=(Array.getElem?_eq_some_iff.1 hb).1;have c2:=ZgM xs hn ps (by omega) g cap' w.heap.size w1.heap.size wr hH hgl (by omega) (by omega) hcx hCM;have hll:((ps.mergeSort fun x y=>!ltOf (Tr.cfp xs) y x).map Tr.Pc.val).length=ss.length:=by rw [List.length_map,List.length_mergeSort,hlen]
    rw [hlen] at c2;generalize (ps.mergeSort fun x y=>!ltOf (Tr.cfp xs) y x).map Tr.Pc.val=L at *;have hll':Hid (L.length=ss.length):=hll;clear hrow hps hlen hall hG hrg hcx hCM hown h4 h3 hb hH hll;subst hv;go_wp2_with fail
    refine c2.mono ?_;rintro e w2 ⟨rfl,hT,hgr⟩;have B2:=hnx.grown hgr hnx.size (fun j hj=>by cases hj;omega);go_wp2_with fail
    go_ret
    exact ⟨some ⟨g,0,none⟩,cap',L,by rw [hll'.out];rfl,by rw [hll'.out];exact h1,by rw [hll'.out];omega,.inr ⟨g,0,rfl,by omega,hT⟩,HR.out,B2⟩
  ·intro x c kl yd yp w2 cnt2 hkey hlk hv hat hrg2 hlt hg2 hs2 hen;obtain ⟨x',ex,rfl,_⟩:=Maps.keyOf_str Tryz.underlying9 hkey;obtain rfl:x=⟨x'.toArray⟩:=by cases ex;rfl
   have hkx:Lit.string x'=Tr.kl ⟨x'.toArray⟩:=by simp [Tr.kl]
   have hx4:=hD4 x' (has_true_of_atKey hat);rw [hkx] at hlk hrg2 hat;have hh:has D (Tr.kl ⟨x'.toArray⟩)=true:=has_true_of_atKey hat;obtain ⟨c',hc1,hc2,_⟩:=plainElem_int_inv Tryz.underlying3 hv;obtain rfl:c=c':=by cases hc1;rfl
   have hcc:c=(Tr.ct xs ⟨x'.toArray⟩:Int):=Tr.CM.at_is hD3 _ ((Tr.Zqq x').trans hx4.1) c (by rw [hat];cases hc2;rfl);have hrow2:=hrow.kept hg2 (Or.inr (row_ne_iter hrow hrg).symm);have hcx2:=hg2.cell hcx (by simp;have:=hs8.out;omega);have hsz2:w1.heap.size+2<=w2.heap.size:=by omega
   have B2:Below w.heap.size w w2:=hnx.grown hg2 hnx.size (fun j hj=>by cases hj;have:=hs8.out;omega);generalize (⟨x'.toArray⟩:ByteArray)=X at *;clear hs2 hrow hcx hnx hkey hx4 ex hc1 hc2 hv;by_cases h2:2<=Tr.ct xs X
   ·have hci:(2:Int)<=c:=by omega
    have d1:decide ((2:Int)<=c)=true:=zdT hci;have hG2:=hG.yes hlk hh h2;clear hcc hG
    go_wp2_with (first
     | (at_builtin;refine wpList_append_own _ rfl _ _ 22 rfl (w1.heap.size+2) 9 i0 (.string ⟨#[]⟩) 1 16 Tryz.underlying22 hi hz0 hz1 hz2 rfl (by decide) _ _ _ rfl (hrow2.alloc _) ⟨w2.heap.size,0,none⟩ 1 1 [.string X] rfl rfl (cell_one_new _ _ _) (by simp [Value.oneCell']) (by unfold maxLen at *;omega) (by omega) (by simp;omega) ?_;intro v' w3 hown' hg3 hnil3;go_frame)
     | fail)
    have hne1:=row_ne_low hrow2 (b:=w.heap.size) (by omega);have hne2:=row_ne_iter hrow2 hrg2;have hne3:=row_ne_low hrow2 (b:=w1.heap.size) (by omega);have hrg3:=(hrg2.alloc (.cells #[.string X] 9 (0,0))).kept hg3 hne1 hne2;have hcx3:=hg3.cell (((World.grownBy_alloc w2 (.cells #[.string X] 9 (0,0)) none).cell hcx2 (by simp))) hne3;have hsz3:w1.heap.size+2<=w3.heap.size:=by have:=hg3.size;simp at this;omega
    have B3:Below w.heap.size w w3:=(B2.alloc B2.size (.cells #[.string X] 9 (0,0))).grown hg3 (by simp;omega) (fun j hj=>by have:=(hrow2.lt j hj).1;omega);go_roundw
    case rel=>exact ⟨_,cnt2,ss++[X],hrg3,by simp;omega,by simpa using hown',hG2,hcx3,hsz3,B3⟩
    case measure=>rw [hrg3.left_eq,hrg.left_eq];exact hlt
   ·have hci:¬ (2:Int)<=c:=by omega
    have d1:decide ((2:Int)<=c)=false:=dF hci;have hG2:=hG.no (x:=X) (by omega);clear hcc hG;go_wp2_with fail
    go_roundw
    case rel=>exact ⟨_,cnt2,ss,hrg2,by omega,hrow2,hG2,hcx2,hsz2,B2⟩
    case measure=>rw [hrg2.left_eq,hrg.left_eq];exact hlt
namespace Ar
def ZkN (a:A) (k:Nat):ByteArray:=if k=0 then ⟨#[]⟩ else (fa a.files (k - 1)).name
theorem Zpe {b:ByteArray} (h:isNm b=true):0<b.size:=by
 unfold isNm at h;rw [Bool.and_eq_true] at h;have:=of_decide_eq_true h.1;omega
theorem ZsL {b:ByteArray} (h:isNm b=true):b.size<=12:=by
 unfold isNm at h;rw [Bool.and_eq_true] at h;have:=of_decide_eq_true h.1;omega
theorem ZuQ (n:ByteArray):Tr.bl n ⟨#[]⟩=false:=by
 unfold Tr.bl;rw [show (⟨#[]⟩:ByteArray).toList=[] by rw [ByteArray.toList_eq]]
 cases n.toList <;> rfl
theorem ZuR {a:A} {k:Nat} (hn:isNm (fa a.files k).name=true) :
 (decide (k=0) || Tr.bl (fa a.files (k - 1)).name (fa a.files k).name)=!(Op.bytesLess (fa a.files k).name.toList (ZkN a k).toList || ((fa a.files k).name.toList == (ZkN a k).toList)):=by
 have hp:=Zpe hn;unfold ZkN;by_cases h0:k=0
 ·subst h0;rw [if_pos rfl];have h1:=ZuQ (fa a.files 0).name;unfold Tr.bl at h1;have e2:decide ((fa a.files 0).name=⟨#[]⟩)=false:=decide_eq_false (fun e=>by rw [e] at hp;exact absurd hp (Nat.lt_irrefl 0));rw [h1,ZdK,e2];simp
 ·rw [if_neg h0,dF h0,Bool.false_or,ZdK];generalize (fa a.files (k - 1)).name=l;generalize (fa a.files k).name=n
  cases h1:Tr.bl l n with
  | true =>
   have h2:=ZqJ h1;unfold Tr.bl at h2;rw [h2,dF]
   ·rfl
   ·rintro rfl;rw [Tr.ZcL] at h1;cases h1
  | false =>
   cases h2:Tr.bl n l with
   | true=>unfold Tr.bl at h2;rw [h2];rfl
   | false=>rw [Tr.Zgp h2 h1];simp
theorem ZbU {a:A} {k:Nat} (hk:k<a.files.length) (h:okAt a k=false):gdK a a.files.length=false:=by
 cases hg:gdK a a.files.length with
 | false=>rfl
 | true=>rw [Zfn hg hk] at h;cases h
def txK (a:A) (k:Nat):List ByteArray:=(a.files.take k).map (tx a.dicts)
theorem Zjj {a:A} {k:Nat} (h:k<a.files.length):txK a (k+1)=txK a k++[tx a.dicts (fa a.files k)]:=by
 unfold txK;rw [ZQ h,List.map_append];rfl
theorem ZoQ (a:A):txK a a.files.length=txs a:=by unfold txK txs;rw [List.take_length]
end Ar
theorem Zex {w:World} {base:Nat} {v:Value} {L:List ByteArray} (h:w.ownsRow base 9 1 v L.length (L.map Value.string)):∃ ad cap,v=.slice ad L.length cap/\L.length<=cap/\Tr.TxFar base w ad L:=by
 rcases h.2 with ⟨h1,h2⟩ | ⟨g,cap,cur,h1,h2,h3,h4,h5,h6,h7⟩
 ·obtain rfl:L=[]:=List.length_eq_zero_iff.1 h2;exact ⟨none,0,h1,nl _,.inl rfl⟩
 ·refine ⟨some ⟨g,0,none⟩,cap,h1,h4,.inr ⟨g,0,rfl,h2,(Array.getElem?_eq_some_iff.1 h3).1,fun i hi=>?_⟩⟩;have e:(cur.toList.take (L.length*1))[i]?=(L.map Value.string)[i]?:=by rw [h7]
  rw [Nat.mul_one,List.getElem?_take_of_lt hi] at e;simp only [World.cell?,h3,Nat.zero_add];simp only [Option.isSome_none,Bool.false_eq_true,if_false];rw [<-Array.getElem?_toList,e];simp [Tr.xa,hi]
theorem TxFar.sl {lo:Nat} {w:World} {ad:Option Addr} {L:List ByteArray} (h:Tr.TxFar lo w ad L):TxSl w ad L:=by
 rcases h with h | ⟨b,off,h1,_,h2⟩
 ·exact .inl h
 ·exact .inr ⟨b,off,h1,h2⟩
theorem FlSl.at {w:World} {ad:Option Addr} {fs:List Ar.F} (h:FlSl w ad fs) {i:Nat} (hi:i<fs.length):∃ b off,ad=some ⟨b,off,none⟩/\b<w.heap.size/\FlC w b (off+i*5) (Ar.fa fs i):=by
 rcases h with rfl | ⟨b,off,h1,h2⟩
 ·simp at hi
 ·exact ⟨b,off,h1,h2.1,h2.2 i hi⟩
def Zag (a:Ar.A) (w:World) (e:Ending) (w':World):Prop:=∃ ad cap L,e=.returned (.tuple #[.slice ad (L:List ByteArray).length cap,.int .i64 (Ar.chk a)])/\L.length<=cap/\Tr.TxFar w.heap.size w' ad L/\(Ar.chk a=0->L=Ar.txs a)/\(Ar.chk a ≠ 0->L=[]/\ad=none/\cap=0)/\Below w.heap.size w w'
theorem Zok {a:Ar.A} {w w':World} (hb:Below w.heap.size w w') (hc:Ar.chk a ≠ 0):Zag a w (.returned (.tuple #[.slice none 0 0,.int .i64 (Ar.chk a)])) w' :=
 ⟨none,0,[],rfl,nl _,.inl rfl,fun h=>absurd h hc,fun _=>⟨rfl,rfl,rfl⟩,hb⟩
theorem ZkP (ad af:Option Addr) (cd cf:Nat) (a:Ar.A) (w:World) (h:ArV w ad af a) (hs:SaneA a) (hm:Ar.many a=true) :
 Calls Tryz.prog 61 #[av ad cd af cf a] w fun e w'=>Zag a w e w':=by
 have hc:Ar.chk a=2:=by unfold Ar.chk;rw [if_pos hm]
 have hb:=fun o=>(bR w.heap.size w).alloc (nl _) o
 have c1:=fun w hx=>Zdy ad af cd cf a w hx hs
 rw [hm] at c1;have HX:Hid (∀ o,TxSl (w.alloc o) ad a.dicts):=fun o=>h.ds.below (hb o)
 have HE:Hid (∀ w',Below w.heap.size w w'->Zag a w (.returned (.tuple #[.slice none 0 0,.int .i64 2])) w'):=fun w' h9=>by rw [<-hc];exact Zok h9 (by rw [hc];decide)
 have C1:Hid (∀ o,Calls Tryz.prog 97 #[av ad cd af cf a] (w.alloc o) fun e w'=>e=.returned (.bool true)/\Below (w.alloc o).heap.size (w.alloc o) w'):=fun o=>c1 _ (HX.out o)
 clear c1 h hs hc;unfold av at C1 |-
 clear HX hm;generalize a.dicts.length=D at *;generalize a.files.length=F at *;go_enter Tryz.func61,Tryz.ntmps61
 go_wp2_with fail
 refine (C1.out _).mono ?_;rintro e w1 ⟨rfl,G⟩;go_wp2_with fail
 go_ret2
 exact HE.out _ (bch (hb _) G (nl _))
theorem ZkS (ad af:Option Addr) (cd cf:Nat) (a:Ar.A) (w:World) (h:ArV w ad af a) (hs:SaneA a) (hm:Ar.many a=false) :
 Calls Tryz.prog 61 #[av ad cd af cf a] w fun e w'=>Zag a w e w':=by
 obtain ⟨m1,m2,m3⟩:=Ar.Zw.1 hm;obtain ⟨i0,hi,hz0,hz1,hz2⟩:=info_parts (P:=Tryz.prog) (e:=9) (z:=.string ⟨#[]⟩) (size:=1) (bytes:=16) (by kernel_rfl);have HC:Hid (Ar.chk a=if Ar.gdK a a.files.length=true then 0 else 1):=by show _=_;unfold Ar.chk;rw [hm];rfl
 have hb:=fun o=>(bR w.heap.size w).alloc (nl _) o
 have c1:=fun o=>Zdy ad af cd cf a (w.alloc o) (h.ds.below (hb o)) hs
 rw [hm] at c1
 have HB:Hid (∀ w',Below w.heap.size w w'->Ar.gdK a a.files.length=false->Zag a w (.returned (.tuple #[.slice none 0 0,.int .i64 1])) w'):=fun w' h9 hg=>by
  have hc:Ar.chk a=1:=by rw [HC.out,hg];rfl
  rw [<-hc];exact Zok h9 (by rw [hc];decide)
 have HG:Hid (∀ w' v base,w.heap.size<=base->Below w.heap.size w w'->Ar.gdK a a.files.length=true->w'.ownsRow base 9 1 v a.files.length ((Ar.txs a).map Value.string)->Zag a w (.returned (.tuple #[v,.int .i64 0])) w'):=fun w' v base hbs h9 hg ho=>by
  have hc:Ar.chk a=0:=by rw [HC.out,hg];rfl
  have hl:(Ar.txs a).length=a.files.length:=by unfold Ar.txs;rw [List.length_map]
  rw [<-hl] at ho;obtain ⟨ad',cap',rfl,h4,h5⟩:=Zex ho;refine ⟨ad',cap',Ar.txs a,by rw [hc],h4,?_,fun _=>rfl,fun h8=>absurd hc h8,h9⟩;rcases h5 with h5 | ⟨b,off,h6,h7,h8⟩
  ·exact .inl h5
  ·exact .inr ⟨b,off,h6,by omega,h8⟩
 have HFl:Hid (∀ w',Below w.heap.size w w'->∀ k,k<a.files.length->∃ b off,af=some ⟨b,off,none⟩/\b<w'.heap.size/\FlC w' b (off+k*5) (Ar.fa a.files k)):=fun w' h9 k hk=>(h.fs.below h9).at hk
 have HU:Hid (∀ w',Below w.heap.size w w'->∀ k,Calls Tryz.prog 98 #[av ad cd af cf a,fv (Ar.fa a.files k)] w' fun e w2=>e=.returned (.tuple #[.string (Ar.ukT a.dicts (Ar.fa a.files k)),.bool (Ar.okf a.dicts (Ar.fa a.files k))])/\Below w'.heap.size w' w2):=fun w' h9 k=>Zfc ad af cd cf a _ w' (h.ds.below h9) hs (hs.bk k)
 have HN:Hid (∀ k,(Ar.fa a.files k).name.size<=140737488355328):=hs.nm
 have HZ:Hid (∀ k,Ar.okf a.dicts (Ar.fa a.files k)=true->(Ar.ukT a.dicts (Ar.fa a.files k)).size<=512/\Ar.ukT a.dicts (Ar.fa a.files k)=Ar.tx a.dicts (Ar.fa a.files k)):=fun k h9=>by
  have e:Ar.ukT a.dicts (Ar.fa a.files k)=Ar.tx a.dicts (Ar.fa a.files k):=by unfold Ar.ukT;rw [if_pos h9]
  rw [e];have h8:=(Bool.and_eq_true _ _ ▸ h9:_/\_).2;exact ⟨Bk.unp_size (of_decide_eq_true h8).1,rfl⟩
 clear h hs hm HC m3;unfold av at c1 HU |-
 unfold fv at HU
 obtain ⟨D,hD⟩:∃ D,a.dicts.length=D:=⟨_,rfl⟩
 obtain ⟨N,hN⟩:∃ N,a.files.length=N:=⟨_,rfl⟩
 rw [hD,hN] at c1 |-
 simp only [hD,hN] at HU HFl HG HB;have HNN:Hid (a.files.length=N):=hN;rw [hN] at m2;clear hN hD m1;have hN':(N:Int)<=12:=by omega
 go_enter Tryz.func61,Tryz.ntmps61
 go_wp2_with fail
 refine (c1 _).mono ?_;rintro e w1 ⟨rfl,G⟩;clear c1;have hA:∀ i,w1.cell? ⟨w.heap.size,i,none⟩=(#[.slice ad D cd,.slice af N cf]:Array Value)[i]?:=fun i=>(G.cell (p:=⟨w.heap.size,i,none⟩) (by simp)).trans (World.cell?_alloc_new _ _ _ i)
 have hzA:w.heap.size<w1.heap.size:=by have:=G.size;simp at this;omega
 have B1:=bch (hb (.cells #[.slice ad D cd,.slice af N cf] 25 (0,0))) G (nl _);have a0:w1.cell? ⟨w.heap.size,0,none⟩=some (.slice ad D cd):=hA 0;have a1:w1.cell? ⟨w.heap.size,1,none⟩=some (.slice af N cf):=hA 1;clear hA G;go_wp2_with fail
 go_loopw [4,5,15] (fun v l i wr=>∃ (k:Nat) (la:ByteArray),k<=N/\i=.int .i64 k/\l=.string la/\Hid (Ar.ZkN a k=la)/\Hid (Ar.gdK a k=true)/\wr.ownsRow w1.heap.size 9 1 v k ((Ar.txK a k).map Value.string)/\Below w1.heap.size w1 wr) (fun _ _ i _=>N - (intOf i).toNat)
 case atStart=>exact ⟨0,⟨#[]⟩,by omega,rfl,rfl,rfl,rfl,⟨rfl,.inl ⟨rfl,rfl⟩⟩,bR _ _⟩
 case round =>
  obtain ⟨k,la,hk2,rfl,rfl,HLA,HGK,hrow,B2⟩:=hrel;have a0':=(B2.cell (p:=⟨w.heap.size,0,none⟩) hzA).trans a0;have a1':=(B2.cell (p:=⟨w.heap.size,1,none⟩) hzA).trans a1;have B3:=bch B1 B2 (nl _);have hzr:w.heap.size+1<=wr.heap.size:=by have:=B2.size;omega
  have hzr':w.heap.size<wr.heap.size:=hzr;by_cases hlt:k<N
  ·have d1:decide ((k:Int)<(N:Int))=true:=by simp;omega
   have d1':decide (k<N)=true:=by simp;omega
   have hki:(k:Int)<(N:Int):=by omega
   obtain ⟨b,off,rfl,hbl,hc⟩:=HFl.out wr B3 k hlt;obtain ⟨c0,c1,c2,c3,c4⟩:=hc;have c5:=fun w=>Zaw (Ar.fa a.files k).name w (HN.out k)
   have hkl:Hid (k<a.files.length):=by show _<_;rw [HNN.out];exact hlt
   have HOK:Hid (∀ x y z,Ar.isNm (Ar.fa a.files k).name=x->(decide (k=0) || Tr.bl (Ar.fa a.files (k - 1)).name (Ar.fa a.files k).name)=y->Ar.okf a.dicts (Ar.fa a.files k)=z->Ar.okAt a k=(x && y && z)):=fun x y z h1 h2 h3=>by unfold Ar.okAt;rw [h1,h2,h3]
   have c6:=fun w' hb=>HU.out w' hb k
   have HZk:=HZ.out k;have HTK:Hid (Ar.txK a (k+1)=Ar.txK a k++[Ar.tx a.dicts (Ar.fa a.files k)]):=Ar.Zjj hkl.out
   cases hnm:Ar.isNm (Ar.fa a.files k).name with
   | false =>
    have hg:Hid (Ar.gdK a N=false):=by
     show _=_;rw [<-HNN.out];refine Ar.ZbU hkl.out ?_;rw [HOK.out false _ _ hnm rfl rfl];rfl
    rw [hnm] at c5;clear hnm HOK c6 HZk HTK;generalize (Ar.fa a.files k).name=f0 at *;generalize (Ar.fa a.files k).dict=f1 at *;generalize (Ar.fa a.files k).size=f2 at *;generalize (Ar.fa a.files k).sum=f3 at *;generalize (Ar.fa a.files k).blk=f4 at *;go_wp2_with fail
    refine (c5 _).mono ?_;rintro e w2 ⟨rfl,rfl⟩;go_wp2_with fail
    go_ret2
    exact HB.out _ (B3.alloc B3.size _) hg.out
   | true =>
    have hord:=Ar.ZuR hnm;rw [HLA.out] at hord;rw [hnm] at c5
    cases hoo:(Op.bytesLess (Ar.fa a.files k).name.toList la.toList || ((Ar.fa a.files k).name.toList == la.toList)) with
    | true =>
     rw [hoo] at hord
     have hg:Hid (Ar.gdK a N=false):=by
      show _=_;rw [<-HNN.out];refine Ar.ZbU hkl.out ?_;rw [HOK.out true false _ hnm hord rfl];rfl
     clear hnm HOK c6 HZk hord HTK;generalize (Ar.fa a.files k).name=f0 at *;generalize (Ar.fa a.files k).dict=f1 at *;generalize (Ar.fa a.files k).size=f2 at *;generalize (Ar.fa a.files k).sum=f3 at *;generalize (Ar.fa a.files k).blk=f4 at *;go_wp2_with fail
     refine (c5 _).mono ?_;rintro e w2 ⟨rfl,rfl⟩;go_wp2_with fail
     go_ret2
     exact HB.out _ (B3.alloc B3.size _) hg.out
    | false =>
     rw [hoo] at hord
     cases hof:Ar.okf a.dicts (Ar.fa a.files k) with
     | false =>
      have hg:Hid (Ar.gdK a N=false):=by
       show _=_;rw [<-HNN.out];refine Ar.ZbU hkl.out ?_;rw [HOK.out true true false hnm hord hof];rfl
      rw [hof] at c6;clear hnm HOK HZk hord hof HTK;generalize Ar.ukT a.dicts (Ar.fa a.files k)=T at *;generalize (Ar.fa a.files k).name=f0 at *;generalize (Ar.fa a.files k).dict=f1 at *;generalize (Ar.fa a.files k).size=f2 at *;generalize (Ar.fa a.files k).sum=f3 at *;generalize (Ar.fa a.files k).blk=f4 at *;have c7:=c6 _ (B3.alloc B3.size (.cells #[.string f0,.int .i64 f1,.int .i64 f2,.int .i64 f3,.string f4] 46 (0,0)));clear c6;go_wp2_with fail
      refine (c5 _).mono ?_;rintro e w2 ⟨rfl,rfl⟩;go_wp2_with fail
      refine c7.mono ?_;rintro e w3 ⟨rfl,G⟩;go_wp2_with fail
      go_ret2
      exact HB.out _ (bch (B3.alloc B3.size _) G (nl _)) hg.out
     | true =>
      obtain ⟨hT5,hTT⟩:=HZk hof;have hok:Hid (Ar.gdK a (k+1)=true):=by show _=_;rw [Ar.gdK,HGK.out,HOK.out true true true hnm hord hof];rfl
      have hla:Hid (Ar.ZkN a (k+1)=(Ar.fa a.files k).name):=by show _=_;unfold Ar.ZkN;rw [if_neg (by omega)];rfl
      rw [<-hTT] at HTK;rw [hof] at c6;clear hnm HOK HZk hord hof hTT;generalize Ar.ukT a.dicts (Ar.fa a.files k)=T at *;generalize (Ar.fa a.files k).name=f0 at *;generalize (Ar.fa a.files k).dict=f1 at *;generalize (Ar.fa a.files k).size=f2 at *;generalize (Ar.fa a.files k).sum=f3 at *;generalize (Ar.fa a.files k).blk=f4 at *;have c7:=c6 _ (B3.alloc B3.size (.cells #[.string f0,.int .i64 f1,.int .i64 f2,.int .i64 f3,.string f4] 46 (0,0)));clear c6;go_wp2_with fail
      refine (c5 _).mono ?_;rintro e w2 ⟨rfl,rfl⟩;go_wp2_with fail
      refine c7.mono ?_;rintro e w3 ⟨rfl,G⟩;have hrow3:=Zh (hrow.alloc (.cells #[.string f0,.int .i64 f1,.int .i64 f2,.int .i64 f3,.string f4] 46 (0,0))) G;have B4:Below w1.heap.size w1 w3:=bch (B2.alloc B2.size (.cells #[.string f0,.int .i64 f1,.int .i64 f2,.int .i64 f3,.string f4] 46 (0,0))) G (nl _);have hz3:=B4.size;clear G B2 B3 hrow c5 c7 c0 c1 c2 c3 c4 hbl
      go_wp2_with (first
       | (at_builtin;refine wpList_append_own _ rfl _ _ 22 rfl w1.heap.size 9 i0 (.string ⟨#[]⟩) 1 16 Tryz.underlying22 hi hz0 hz1 hz2 rfl (by decide) _ _ _ rfl (hrow3.alloc _) ⟨w3.heap.size,0,none⟩ 1 1 [.string T] rfl rfl (cell_one_new _ _ _) (by simp [Value.oneCell']) (by unfold maxLen at *;omega) (by omega) (by simp;omega) ?_;intro v' w4 hown' hg4 hnil4;go_frame)
       | fail)
      have B5:Below w1.heap.size w1 w4:=(B4.alloc B4.size (.cells #[.string T] 9 (0,0))).grown hg4 (by simp;omega) (fun j hj=>(hrow3.lt j hj).1);go_roundw
      case rel=>exact ⟨k+1,f0,by omega,by go_num,rfl,hla,hok,by rw [HTK.out,List.map_append];exact hown',B5⟩
      case measure=>simp [intOf];omega
  ·obtain rfl:k=N:=by omega
   have d1:decide ((k:Int)<(k:Int))=false:=by simp
   have HTA:Hid (Ar.txK a k=Ar.txs a):=by show _=_;rw [<-HNN.out];exact Ar.ZoQ a
   rw [HTA.out] at hrow;have hfin:=HG.out wr _ w1.heap.size B1.size B3 HGK.out hrow;clear hrow;go_wp2_with fail
   go_ret2
   exact hfin
theorem ZbG (ad af:Option Addr) (cd cf:Nat) (a:Ar.A) (w:World) (h:ArV w ad af a) (hs:SaneA a) :
 Calls Tryz.prog 61 #[av ad cd af cf a] w fun e w'=>Zag a w e w':=by
 cases hm:Ar.many a with
 | true=>exact ZkP ad af cd cf a w h hs hm
 | false=>exact ZkS ad af cd cf a w h hs hm
theorem Zix (f:Ar.F) (name:ByteArray) (w:World) :
 Calls Tryz.prog 89 #[fv f,.string name] w fun e w'=>e=.returned (.int .i64 (Lib.compareBytes f.name.data.toList name.data.toList))/\Below w.heap.size w w':=by
 have c1:=fun w=>Tryz.strings_Compare f.name name w
 unfold fv;generalize Lib.compareBytes f.name.data.toList name.data.toList=r at *;generalize f.name=f0 at *;go_enter Tryz.func89,Tryz.ntmps89
 go_wp2_with fail
 refine (c1 _).mono ?_;rintro e w1 ⟨rfl,rfl⟩;go_wp2_with fail
 go_ret
 exact ⟨rfl,(bR _ _).alloc (nl _) _⟩
theorem ZeO:∀ (x y:List UInt8),(Lib.compareBytes x y=0) ↔ x=y
 | [],[]=>by simp [Lib.compareBytes]
 | _ :: _,[]=>by simp [Lib.compareBytes]
 | [],_ :: _=>by simp [Lib.compareBytes]
 | a :: x,b :: y=>by
  rw [Lib.compareBytes];have ih:=ZeO x y;by_cases h1:a<b
  ·have h3:a ≠ b:=by rintro rfl;exact absurd h1 (UInt8.lt_irrefl _)
   simp [h1,h3]
  ·by_cases h2:b<a
   ·have h3:a ≠ b:=by rintro rfl;exact h1 h2
    simp [h1,h2,h3]
   ·have h3:a=b:=UInt8.le_antisymm (UInt8.not_lt.1 h2) (UInt8.not_lt.1 h1);subst h3;simpa [h1] using ih
theorem Zsa (a b:ByteArray):decide (Lib.compareBytes a.data.toList b.data.toList=0)=decide (a=b):=by
 by_cases h:a=b
 ·subst h;rw [zdT ((ZeO _ _).2 rfl),zdT rfl]
 ·rw [dF h,dF];intro e;apply h;apply Tr.Zbr;rw [ByteArray.toList_eq,ByteArray.toList_eq];exact (ZeO _ _).1 e
theorem ZhU (b off cap:Nat) (fs:List Ar.F) (name:ByteArray) (w:World) (h:FlAt w b off fs) (hn:fs.length<=100000) (hs:Ar.Srt fs) :
 Calls Tryz.prog 88 #[.slice (some ⟨b,off,none⟩) fs.length cap,.string name,.func (.func 89) #[] #[]] w fun e w'=>e=.returned (.tuple #[.int .i64 (Ar.pos fs name:Nat),.bool (Ar.ZL fs name)])/\Below w.heap.size w w':=by
 have HF:Hid (∀ w',Below w.heap.size w w'->∀ k,k<fs.length->FlC w' b (off+k*5) (Ar.fa fs k)):=fun w' h9 k hk=>(h.below h9).2 k hk
 have HC:Hid (∀ k w,Calls Tryz.prog 89 #[fv (Ar.fa fs k),.string name] w fun e w'=>e=.returned (.int .i64 (Lib.compareBytes (Ar.fa fs k).name.data.toList name.data.toList))/\Below w.heap.size w w'):=fun k w=>Zix _ name w
 have HP:Hid (∀ i,i<=fs.length->(∀ k,k<i->Tr.bl (Ar.fa fs k).name name=true)->(i<fs.length->Tr.bl (Ar.fa fs i).name name=false)->Ar.pos fs name=i):=fun i h1 h2 h3=>Ar.Zrr h1 h2 h3
 have HT:Hid (Ar.ZL fs name=decide (Ar.pos fs name<fs.length/\(Ar.fa fs (Ar.pos fs name)).name=name)):=rfl;have HSr:Hid (∀ i j,i<j->j<fs.length->Tr.bl (Ar.fa fs i).name (Ar.fa fs j).name=true):=hs;clear h hs
 obtain ⟨p,hp⟩:∃ p,Ar.pos fs name=p:=⟨_,rfl⟩
 obtain ⟨r,hr⟩:∃ r,Ar.ZL fs name=r:=⟨_,rfl⟩
 rw [hp,hr];rw [hp,hr] at HT;rw [hp] at HP;clear hp hr;unfold fv at HC;generalize hN:fs.length=N at *;have hNi:(N:Int)<=100000:=by omega
 clear hN;go_enter Tryz.func88,Tryz.ntmps88
 go_wp2_with fail
 go_loopw [9,10] (fun i j wr=>∃ I J:Nat,I<=J/\J<=N/\i=.int .i64 I/\j=.int .i64 J/\Hid (∀ k,k<I->Tr.bl (Ar.fa fs k).name name=true)/\Hid (J<N->Tr.bl (Ar.fa fs J).name name=false)/\Below w.heap.size w wr) (fun i j _=>(intOf j).toNat - (intOf i).toNat)
 case atStart=>exact ⟨0,N,by omega,by omega,rfl,rfl,fun k hk=>by omega,fun h9=>by omega,bR _ _⟩
 case round =>
  obtain ⟨I,J,hIJ,hJN,rfl,rfl,H1,H2,B1⟩:=hrel;by_cases hlt:I<J
  ·have d1:decide ((I:Int)<(J:Int))=true:=zdT (by omega);have hlt':(I:Int)<(J:Int):=by omega
   obtain ⟨M,hM⟩:∃ M,(I+J) / 2=M:=⟨_,rfl⟩
   have hM1:I<=M/\M<J:=by omega
   obtain ⟨c0,c1,c2,c3,c4⟩:=HF.out wr B1 M (by omega);have c5:=HC.out M;have hMi:(M:Int)<=100000:=by omega
   have hMN:(M:Int)<(N:Int):=by omega
   have hMN':M<N:=by omega
   have hbl:=Tr.ZnR (Ar.fa fs M).name name
   obtain ⟨x,hx⟩:∃ x,Lib.compareBytes (Ar.fa fs M).name.data.toList name.data.toList=x:=⟨_,rfl⟩
   rw [hx] at c5 hbl;clear hx
   cases hq:Tr.bl (Ar.fa fs M).name name with
   | true =>
    have K1:Hid (∀ k,k<M+1->Tr.bl (Ar.fa fs k).name name=true):=fun k hk=>by
     by_cases e:k=M
     ·subst e;exact hq
     ·exact Tr.ZcR (HSr.out k M (by omega) hMN') hq
    rw [hq] at hbl;have hx0:x<0:=of_decide_eq_true hbl;clear hq;generalize (Ar.fa fs M).name=f0 at *;generalize (Ar.fa fs M).dict=f1 at *;generalize (Ar.fa fs M).size=f2 at *;generalize (Ar.fa fs M).sum=f3 at *;generalize (Ar.fa fs M).blk=f4 at *;go_wp2_with fail
    refine (c5 _).mono ?_;rintro e w1 ⟨rfl,G⟩;have B2:=bch B1 G (nl _);go_wp2_with fail
    go_roundw
    case rel=>exact ⟨M+1,J,by omega,by omega,by go_num,rfl,K1,H2,B2⟩
    case measure=>simp [intOf];omega
   | false =>
    have K1:Hid (M<N->Tr.bl (Ar.fa fs M).name name=false):=fun _=>hq
    rw [hq] at hbl;have hx0:¬ x<0:=of_decide_eq_false hbl;clear hq;generalize hf0:(Ar.fa fs M).name=f0 at c0 c5 hbl;clear hf0;generalize (Ar.fa fs M).dict=f1 at *;generalize (Ar.fa fs M).size=f2 at *;generalize (Ar.fa fs M).sum=f3 at *;generalize (Ar.fa fs M).blk=f4 at *;go_wp2_with fail
    refine (c5 _).mono ?_;rintro e w1 ⟨rfl,G⟩;have B2:=bch B1 G (nl _);go_wp2_with fail
    go_roundw
    case rel=>exact ⟨I,M,by omega,by omega,rfl,by go_num,H1,K1,B2⟩
    case measure=>simp [intOf];omega
  ·obtain rfl:I=J:=by omega
   have d1:decide ((I:Int)<(I:Int))=false:=by simp
   have hp:Hid (p=I):=HP.out I hJN H1.out H2.out;rw [hp.out] at HT;by_cases hIN:I<N
   ·have d2:decide ((I:Int)<(N:Int))=true:=zdT (by omega);have hIi:(I:Int)<(N:Int):=by omega
    obtain ⟨c0,c1,c2,c3,c4⟩:=HF.out wr B1 I hIN;have c5:=HC.out I;have hbl:=Zsa (Ar.fa fs I).name name
    obtain ⟨x,hx⟩:∃ x,Lib.compareBytes (Ar.fa fs I).name.data.toList name.data.toList=x:=⟨_,rfl⟩
    rw [hx] at c5 hbl
    have hr:Hid (r=decide (x=0)):=by
     show _=_;rw [hbl,HT.out];by_cases e:(Ar.fa fs I).name=name
     ·rw [zdT e,zdT ⟨hIN,e⟩]
     ·rw [dF e,dF (fun h9=>e h9.2)]
    clear hx hbl H1 H2 HT HP HSr;generalize (Ar.fa fs I).name=f0 at *;generalize (Ar.fa fs I).dict=f1 at *;generalize (Ar.fa fs I).size=f2 at *;generalize (Ar.fa fs I).sum=f3 at *;generalize (Ar.fa fs I).blk=f4 at *;by_cases hx0:x=0
    ·subst hx0;go_wp2_with fail
     refine (c5 _).mono ?_;rintro e w1 ⟨rfl,G⟩;have B2:=bch B1 G (nl _);go_wp2_with fail
     go_ret2
     exact ⟨by rw [hp.out,hr.out];rfl,B2⟩
    ·have e1:(x == 0)=false:=by simpa using hx0
     have e2:decide (x=0)=false:=dF hx0;go_wp2_with fail
     refine (c5 _).mono ?_;rintro e w1 ⟨rfl,G⟩;have B2:=bch B1 G (nl _);go_wp2_with fail
     go_ret2
     exact ⟨by rw [hp.out,hr.out,e2];rfl,B2⟩
   ·have d2:decide ((I:Int)<(N:Int))=false:=dF (by omega);have hIi:¬ (I:Int)<(N:Int):=by omega
    have hr:Hid (r=false):=by show _=_;rw [HT.out];exact dF (fun h9=>hIN h9.1)
    go_wp2_with fail
    go_ret2
    exact ⟨by rw [hp.out,hr.out];rfl,B1⟩
theorem Zlx (ad:Option Addr) (cap:Nat) (name:ByteArray) (fv:Value) (w:World) :
 Calls Tryz.prog 88 #[.slice ad 0 cap,.string name,fv] w fun e w'=>e=.returned (.tuple #[.int .i64 0,.bool false])/\Below w.heap.size w w':=by
 go_enter Tryz.func88,Tryz.ntmps88
 go_wp2_with fail
 go_loopw [9,10] (fun i j wr=>i=.int .i64 0/\j=.int .i64 0/\wr=w) (fun _ _ _=>0)
 case atStart=>exact ⟨rfl,rfl,rfl⟩
 case round =>
  obtain ⟨rfl,rfl,rfl⟩:=hrel;go_wp2_with fail
  go_ret2
  exact ⟨rfl,bR _ _⟩
theorem ZkO (ad:Option Addr) (cap:Nat) (fs:List Ar.F) (name:ByteArray) (w:World) (h:FlSl w ad fs) (hn:fs.length<=100000) (hs:Ar.Srt fs) :
 Calls Tryz.prog 88 #[.slice ad fs.length cap,.string name,.func (.func 89) #[] #[]] w fun e w'=>e=.returned (.tuple #[.int .i64 (Ar.pos fs name:Nat),.bool (Ar.ZL fs name)])/\Below w.heap.size w w':=by
 rcases h with rfl | ⟨b,off,rfl,h2⟩
 ·exact Zlx ad cap name _ w
 ·exact ZhU b off cap fs name w h2 hn hs
theorem ZbV (ad af:Option Addr) (cd cf:Nat) (a:Ar.A) (name:ByteArray) (w:World) (h:FlSl w af a.files) (hn:a.files.length<=100000) (hs:Ar.Srt a.files) :
 Calls Tryz.prog 51 #[av ad cd af cf a,.string name] w fun e w'=>e=.returned (.tuple #[.int .i64 (Ar.pos a.files name:Nat),.bool (Ar.ZL a.files name)])/\Below w.heap.size w w':=by
 have hb:=fun o=>(bR w.heap.size w).alloc (nl _) o
 have c1:=fun o=>ZkO af cf a.files name (w.alloc o) (h.below (hb o)) hn hs
 unfold av;clear h hn hs;generalize Ar.pos a.files name=p at *;generalize Ar.ZL a.files name=r at *;generalize a.dicts.length=D at *;generalize a.files.length=F at *;go_enter Tryz.func51,Tryz.ntmps51
 go_wp2_with fail
 refine (c1 _).mono ?_;rintro e w1 ⟨rfl,G⟩;go_wp2_with fail
 go_ret2
 exact ⟨rfl,bch (hb _) G (nl _)⟩
theorem Zx (ad af:Option Addr) (cd cf:Nat) (a:Ar.A) (w:World) (h:ArV w ad af a) (hs:SaneA a) :
 Calls Tryz.prog 18 #[av ad cd af cf a] w fun e w'=>e=.returned (.int .i64 (Ar.chk a))/\Below w.heap.size w w':=by
 have hb:=fun o=>(bR w.heap.size w).alloc (nl _) o
 have c1:=fun o=>ZbG ad af cd cf a (w.alloc o) (h.below (hb o)) hs
 unfold Zag at c1;unfold av at c1 |-
 generalize Ar.chk a=E at *;generalize Ar.txs a=TX at *;generalize a.dicts.length=D at *;generalize a.files.length=F at *;clear h hs;go_enter Tryz.func18,Tryz.ntmps18
 go_wp2_with fail
 refine (c1 _).mono ?_;rintro e w1 ⟨ad',cap',L,rfl,_,_,_,_,G⟩;clear c1;go_wp2_with fail
 go_ret
 exact ⟨rfl,bch (hb _) G (nl _)⟩
namespace Ar
end Ar
theorem ZR {w:World} {a:Addr} {v:Value} (h:w.cell? a=some v):w.setCell a v=w:=by
 have hh:(w.setCell a v).heap=w.heap:=by
  unfold World.setCell;simp only;apply Array.ext_getElem?;intro i;rw [Array.getElem?_modify];by_cases e:a.block=i
  ·subst e;rw [if_pos rfl];unfold World.cell? at h
   cases hb:w.heap[a.block]? with
   | none=>rfl
   | some o =>
    rw [hb] at h
    cases o with
    | cells c elem fr =>
     simp only [Option.map_some]
     congr 2
     simp only at h;split at h
     ·cases h
     ·rename_i hs
      rw [if_neg hs];obtain ⟨hlt,hv⟩:=Array.getElem?_eq_some_iff.1 h;apply Array.ext_getElem?;intro j;rw [Array.getElem?_setIfInBounds];by_cases e2:a.off=j
      ·subst e2;simp [hlt,hv]
      ·simp [e2]
    | _=>cases h
  ·rw [if_neg e]
 have e:w.setCell a v={ w with heap:=(w.setCell a v).heap }:=rfl;rw [e,hh]
theorem Zb (w:World) (a:Addr) (v:Value):w.grownBy (w.setCell a v) (some a.block):=by
 refine ⟨rfl,rfl,rfl,by simp [World.setCell],fun k hk hne=>?_⟩;have:a.block ≠ k:=fun e=>hne (by rw [e])
 simp [World.setCell,Array.getElem?_modify,this]
structure ClS (w0 wr:World) (B base:Nat) (v1 v2:Value) (n1 n2:Nat) (xs1 xs2:List Value):Prop where
 c0:wr.cell? ⟨B,0,none⟩=some v1
 c1:wr.cell? ⟨B,1,none⟩=some v2
 f0:wr.frozen? ⟨B,0,none⟩=false
 f1:wr.frozen? ⟨B,1,none⟩=false
 o1:wr.ownsRow base 9 1 v1 n1 xs1
 o2:wr.ownsRow base 46 5 v2 n2 xs2
 ne:∀ j,v1.ownBlock=some j->v2.ownBlock ≠ some j
 hB:B<base
 hb:base<=wr.heap.size
 bel:Below B w0 wr
theorem Zau {w:World} {base:Nat} {e:TypeId} {size:Nat} {v:Value} {n:Nat} {xs:List Value} (h:w.ownsRow base e size v n xs) {b:Nat} (hb:b<base):some b ≠ v.ownBlock:=fun e1=>by have:=(h.lt b e1.symm).1;omega
theorem ClS.below {w0 wr w':World} {B base:Nat} {v1 v2:Value} {n1 n2:Nat} {xs1 xs2:List Value} (h:ClS w0 wr B base v1 v2 n1 n2 xs1 xs2) (hb:Below wr.heap.size wr w'):ClS w0 w' B base v1 v2 n1 n2 xs1 xs2:=by
 have hB:B<wr.heap.size:=nT h.hB h.hb
 exact ⟨(hb.cell (p:=⟨B,0,none⟩) hB).trans h.c0,(hb.cell (p:=⟨B,1,none⟩) hB).trans h.c1,(hb.frozen (p:=⟨B,0,none⟩) hB).trans h.f0,(hb.frozen (p:=⟨B,1,none⟩) hB).trans h.f1,
  Zh h.o1 hb,Zh h.o2 hb,h.ne,h.hB,Nat.le_trans h.hb hb.size,h.bel.trans (hb.mono (Nat.le_of_lt hB))⟩
theorem Ze {w w':World} {row:Option Nat} (hg:w.grownBy w' row) {b o:Nat} {v:Value} (h:w.cell? ⟨b,o,none⟩=some v) (hne:some b ≠ row):w'.cell? ⟨b,o,none⟩=some v:=hg.cell h hne
theorem Zr {w w':World} {row:Option Nat} (hg:w.grownBy w' row) {b o:Nat} (hb:b<w.heap.size) (h:w.frozen? ⟨b,o,none⟩=false) (hne:some b ≠ row):w'.frozen? ⟨b,o,none⟩=false:=(hg.frozen_far ⟨b,o,none⟩ hb hne).trans h
theorem ClS.put1 {w0 wr w2:World} {B base g cap n1 m n2:Nat} {v1 v2:Value} {xs1 ys xs2:List Value} {o:Obj} (h:ClS w0 wr B base v1 v2 n1 n2 xs1 xs2) (hg:(wr.alloc o).grownBy w2 v1.ownBlock)
 (ho:w2.ownsRow base 9 1 (.slice (some ⟨g,0,none⟩) m cap) m ys) (hl:v1.ownBlock=some g\/g=(wr.alloc o).heap.size) :
 (w2.cell? ⟨B,0,none⟩=some v1/\w2.frozen? ⟨B,0,none⟩=false)/\ClS w0 (w2.setCell ⟨B,0,none⟩ (.slice (some ⟨g,0,none⟩) m cap)) B base (.slice (some ⟨g,0,none⟩) m cap) v2 m n2 ys xs2:=by
 have hB:B<wr.heap.size:=Nat.lt_of_lt_of_le h.hB h.hb;have hBa:B<(wr.alloc o).heap.size:=by simp;omega
 have ha:=h.below ((Below.refl _ _).alloc (Nat.le_refl _) o);have n0:=Zau h.o1 h.hB;have k0:=Ze hg ha.c0 n0;have k1:=Ze hg ha.c1 n0;have q0:=Zr hg hBa ha.f0 n0;have q1:=Zr hg hBa ha.f1 n0;have hgb:base<=g:=(ho.lt g rfl).1;have hsg:=Zb w2 ⟨B,0,none⟩ (.slice (some ⟨g,0,none⟩) m cap);have hz:(wr.alloc o).heap.size<=w2.heap.size:=hg.size;refine ⟨⟨k0,q0⟩,World.cell?_setCell_same _ _ _ k0,?_,by rw [World.frozen?_setCell];exact q0,by rw [World.frozen?_setCell];exact q1,ho.kept hsg (.inr (by simp [Value.ownBlock];have:=h.hB;omega)),?_,?_,h.hB,?_,?_⟩
 ·exact (World.cell?_setCell_other w2 _ _ _ (by intro e;have:=congrArg Addr.off e;simp at this)).trans k1
 ·refine (ha.o2.kept hg ?_).kept hsg (.inr (Zau ha.o2 h.hB).symm)
  cases hv:v2.ownBlock with
  | none=>exact .inl rfl
  | some j=>exact .inr (fun e=>h.ne j e.symm hv)
 ·intro j hj e;simp [Value.ownBlock] at hj;subst hj;rcases hl with hl | hl
  ·exact h.ne g hl e
  ·have:=(h.o2.lt g e).2;simp at hl;omega
 ·show _<=(w2.setCell _ _).heap.size;have:=h.hb;simp [World.setCell] at *;omega
 ·exact ((h.bel.alloc (Nat.le_of_lt hB) o).grown hg (by simp;omega) (fun j hj=>by have:=(h.o1.lt j hj).1;have:=h.hB;omega)).setCell (Nat.le_refl _) _
theorem ClS.put2 {w0 wr w2:World} {B base g cap n1 m n2:Nat} {v1 v2:Value} {xs1 ys xs2:List Value} {o:Obj} (h:ClS w0 wr B base v1 v2 n1 n2 xs1 xs2) (hg:(wr.alloc o).grownBy w2 v2.ownBlock)
 (ho:w2.ownsRow base 46 5 (.slice (some ⟨g,0,none⟩) m cap) m ys) (hl:v2.ownBlock=some g\/g=(wr.alloc o).heap.size) :
 (w2.cell? ⟨B,1,none⟩=some v2/\w2.frozen? ⟨B,1,none⟩=false)/\ClS w0 (w2.setCell ⟨B,1,none⟩ (.slice (some ⟨g,0,none⟩) m cap)) B base v1 (.slice (some ⟨g,0,none⟩) m cap) n1 m xs1 ys:=by
 have hB:B<wr.heap.size:=Nat.lt_of_lt_of_le h.hB h.hb;have hBa:B<(wr.alloc o).heap.size:=by simp;omega
 have ha:=h.below ((Below.refl _ _).alloc (Nat.le_refl _) o);have n0:=Zau h.o2 h.hB;have k0:=Ze hg ha.c0 n0;have k1:=Ze hg ha.c1 n0;have q0:=Zr hg hBa ha.f0 n0;have q1:=Zr hg hBa ha.f1 n0;have hgb:base<=g:=(ho.lt g rfl).1;have hsg:=Zb w2 ⟨B,1,none⟩ (.slice (some ⟨g,0,none⟩) m cap);have hz:(wr.alloc o).heap.size<=w2.heap.size:=hg.size;refine ⟨⟨k1,q1⟩,?_,World.cell?_setCell_same _ _ _ k1,by rw [World.frozen?_setCell];exact q0,by rw [World.frozen?_setCell];exact q1,?_,ho.kept hsg (.inr (by simp [Value.ownBlock];have:=h.hB;omega)),?_,h.hB,?_,?_⟩
 ·exact (World.cell?_setCell_other w2 _ _ _ (by intro e;have:=congrArg Addr.off e;simp at this)).trans k0
 ·refine (ha.o1.kept hg ?_).kept hsg (.inr (Zau ha.o1 h.hB).symm)
  cases hv:v1.ownBlock with
  | none=>exact .inl rfl
  | some j=>exact .inr (fun e=>h.ne j hv e.symm)
 ·intro j hj e;simp [Value.ownBlock] at e;subst e;rcases hl with hl | hl
  ·exact h.ne g hj hl
  ·have:=(h.o1.lt g hj).2;simp at hl;omega
 ·show _<=(w2.setCell _ _).heap.size;have:=h.hb;simp [World.setCell] at *;omega
 ·exact ((h.bel.alloc (Nat.le_of_lt hB) o).grown hg (by simp;omega) (fun j hj=>by have:=(h.o2.lt j hj).1;have:=h.hB;omega)).setCell (Nat.le_refl _) _
end Go.Proofs.YtbjbjbpgmojcbabGreat
