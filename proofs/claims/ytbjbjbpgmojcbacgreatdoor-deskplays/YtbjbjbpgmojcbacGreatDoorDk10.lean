/- A part of the proof: what it leans on. -/
import Derived.Shelf.Small.Strs
import Derived.Shelf.Strings.Search3
import Derived.Shelf.Strings.Shaped
import Derived.Shelf.SlSortCmp.NoneTotal
import Derived.Maps.OwnSet
import Derived.Maps.OwnOps
import Derived.Maps.RangeWalk
import Derived.Sort.OwnSorted
import Derived.Sort.KeysCollected
import Derived.OwnWalk
import Derived.Test.YtbjbjbpgmojcbacGreatDoorDk09
set_option maxRecDepth 8000
set_option maxHeartbeats 4000000
namespace Go.Proofs
open YtbjbjbpgmojcbacGreatDoor (sR)
open Go.Shelf
def Tryz.lays106_ren:Go.Shelf.Ren:=⟨fun|106=>96|213=>131|265=>176|n=>n,fun|9=>9|3=>3|n=>n,fun|n=>n⟩
theorem Tryz.lays106:Go.Proofs.Lays.n106 Tryz.prog Tryz.lays106_ren:={
 mixed:=by kernel_rfl
 f106:=sR Tryz.func96
 f213:=sR Tryz.func131
 f265:=sR Tryz.func176
 t3:=Tryz.underlying3
 a3:=Tryz.isAgg3
 z3:=Tryz.sizeOf3
 v3:=Tryz.zeroValue3
 t9:=Tryz.underlying9
 a9:=Tryz.isAgg9
 z9:=Tryz.sizeOf9
 v9:=Tryz.zeroValue9 }
open Go.RowKit in
theorem Tryz.strings_Compare(a b:ByteArray)(w:World) :
 Calls Tryz.prog 96 #[.string a,.string b] w λe w'=>e=.returned (.int .i64 (Lib.compareBytes a.data.toList b.data.toList))/\w'=w:=Any.strings_Compare Tryz.lays106 a b w
def Tryz.lays143_ren:Go.Shelf.Ren:=⟨fun|143=>15|219=>30|217=>52|225=>53|224=>54|267=>55|266=>89|314=>90|n=>n,fun|9=>9|3=>3|4=>4|5=>5|46=>76|146=>105|51=>104|n=>n,fun|1=>0|n=>n⟩
theorem Tryz.lays143:Go.Proofs.Lays.n143 Tryz.prog Tryz.lays143_ren:={
 mixed:=by kernel_rfl
 f143:=sR Tryz.func15
 f217:=sR Tryz.func52
 f219:=sR Tryz.func30
 f224:=sR Tryz.func54
 f225:=sR Tryz.func53
 f266:=sR Tryz.func89
 f267:=sR Tryz.func55
 f314:=sR Tryz.func90
 t3:=Tryz.underlying3
 a3:=Tryz.isAgg3
 z3:=Tryz.sizeOf3
 v3:=Tryz.zeroValue3
 t4:=Tryz.underlying4
 a4:=Tryz.isAgg4
 z4:=Tryz.sizeOf4
 v4:=Tryz.zeroValue4
 t5:=Tryz.underlying5
 a5:=Tryz.isAgg5
 z5:=Tryz.sizeOf5
 v5:=Tryz.zeroValue5
 t9:=Tryz.underlying9
 a9:=Tryz.isAgg9
 z9:=Tryz.sizeOf9
 v9:=Tryz.zeroValue9
 t46:=Tryz.underlying76
 a46:=Tryz.isAgg76
 z46:=Tryz.sizeOf76
 v46:=Tryz.zeroValue76
 t51:=Tryz.underlying104
 a51:=Tryz.isAgg104
 z51:=Tryz.sizeOf104
 v51:=Tryz.zeroValue104
 t146:=Tryz.underlying105
 a146:=Tryz.isAgg105
 z146:=Tryz.sizeOf105
 v146:=Tryz.zeroValue105
 g1:=by kernel_rfl }
open Go.RowKit Go.Lib in
theorem Tryz.strings_Index(s sub:ByteArray)(m:Int)(w:World)(hs:s.size<4294967281)(hm:w.cell? ⟨0,0,none⟩=some (.int .i64 m)) :
 Calls Tryz.prog 15 #[.string s,.string sub] w λe w'=>e=.returned (.int .i64 (Lib.index s.data.toList sub.data.toList))/\w'=w:=Any.strings_Index Tryz.lays143 s sub m w hs hm
def Tryz.lays144_ren:Go.Shelf.Ren:=⟨fun|144=>108|143=>15|219=>30|217=>52|225=>53|224=>54|267=>55|266=>89|314=>90|n=>n,fun|9=>9|4=>4|3=>3|5=>5|46=>76|146=>105|51=>104|n=>n,fun|1=>0|n=>n⟩
theorem Tryz.lays144:Go.Proofs.Lays.n144 Tryz.prog Tryz.lays144_ren:={
 mixed:=by kernel_rfl
 f143:=sR Tryz.func15
 f144:=sR Tryz.func108
 f217:=sR Tryz.func52
 f219:=sR Tryz.func30
 f224:=sR Tryz.func54
 f225:=sR Tryz.func53
 f266:=sR Tryz.func89
 f267:=sR Tryz.func55
 f314:=sR Tryz.func90
 t3:=Tryz.underlying3
 a3:=Tryz.isAgg3
 z3:=Tryz.sizeOf3
 v3:=Tryz.zeroValue3
 t4:=Tryz.underlying4
 a4:=Tryz.isAgg4
 z4:=Tryz.sizeOf4
 v4:=Tryz.zeroValue4
 t5:=Tryz.underlying5
 a5:=Tryz.isAgg5
 z5:=Tryz.sizeOf5
 v5:=Tryz.zeroValue5
 t9:=Tryz.underlying9
 a9:=Tryz.isAgg9
 z9:=Tryz.sizeOf9
 v9:=Tryz.zeroValue9
 t46:=Tryz.underlying76
 a46:=Tryz.isAgg76
 z46:=Tryz.sizeOf76
 v46:=Tryz.zeroValue76
 t51:=Tryz.underlying104
 a51:=Tryz.isAgg104
 z51:=Tryz.sizeOf104
 v51:=Tryz.zeroValue104
 t146:=Tryz.underlying105
 a146:=Tryz.isAgg105
 z146:=Tryz.sizeOf105
 v146:=Tryz.zeroValue105
 g1:=by kernel_rfl }
open Go.RowKit Go.Lib in
theorem Tryz.strings_Contains(s sub:ByteArray)(m:Int)(w:World)(hs:s.size<4294967281)(hm:w.cell? ⟨0,0,none⟩=some (.int .i64 m)) :
 Calls Tryz.prog 108 #[.string s,.string sub] w λe w'=>e=.returned (.bool (Lib.contains s.data.toList sub.data.toList))/\w'=w:=Any.strings_Contains Tryz.lays144 s sub m w hs hm
def Tryz.laysM144_ren:Go.Shelf.Ren:=⟨fun|144=>108|143=>15|219=>30|217=>52|225=>53|224=>54|267=>55|266=>89|314=>90|n=>n,fun|9=>9|4=>4|3=>3|5=>5|46=>76|146=>105|51=>104|n=>n,fun|1=>0|n=>n⟩
theorem Tryz.laysM144:Go.Proofs.LaysM.n144 Tryz.prog Tryz.laysM144_ren:={
 mixed:=by kernel_rfl
 f143:=sR Tryz.func15
 f144:=sR Tryz.func108
 f217:=sR Tryz.func52
 f219:=sR Tryz.func30
 f224:=sR Tryz.func54
 f225:=sR Tryz.func53
 f266:=sR Tryz.func89
 f267:=sR Tryz.func55
 f314:=sR Tryz.func90
 t3:=Tryz.underlying3
 a3:=Tryz.isAgg3
 z3:=Tryz.sizeOf3
 v3:=Tryz.zeroValue3
 t4:=Tryz.underlying4
 a4:=Tryz.isAgg4
 z4:=Tryz.sizeOf4
 v4:=Tryz.zeroValue4
 t5:=Tryz.underlying5
 a5:=Tryz.isAgg5
 z5:=Tryz.sizeOf5
 v5:=Tryz.zeroValue5
 t9:=Tryz.underlying9
 a9:=Tryz.isAgg9
 z9:=Tryz.sizeOf9
 v9:=Tryz.zeroValue9
 t46:=Tryz.underlying76
 a46:=Tryz.isAgg76
 z46:=Tryz.sizeOf76
 v46:=Tryz.zeroValue76
 t51:=Tryz.underlying104
 a51:=Tryz.isAgg104
 z51:=Tryz.sizeOf104
 v51:=Tryz.zeroValue104
 t146:=Tryz.underlying105
 a146:=Tryz.isAgg105
 z146:=Tryz.sizeOf105
 v146:=Tryz.zeroValue105
 g1:=by kernel_rfl
 i3:=by kernel_rfl
 i4:=by kernel_rfl
 i5:=by kernel_rfl
 i9:=by kernel_rfl
 i46:=by kernel_rfl
 i51:=by kernel_rfl
 i146:=by kernel_rfl
 m1:=by kernel_rfl
 s1_3:=λw h=>Go.Proofs.cell_of_shapedOpen_int (zero:=#[.int .i64 0]) (t:=3) h (of_decide_eq_true (by kernel_rfl)) (by kernel_rfl) rfl (by kernel_rfl) (by kernel_rfl) Tryz.underlying3 }
open Go.RowKit Go.Lib in
theorem Tryz.strings_Contains_shaped(s sub:ByteArray)(w:World)(h:w.ShapedOpen Tryz.prog)(hs:s.size<4294967281) :
 Calls Tryz.prog 108 #[.string s,.string sub] w λe w'=>e=.returned (.bool (Lib.contains s.data.toList sub.data.toList))/\w'=w:=Any.strings_Contains_shaped Tryz.laysM144 s sub w h hs
def Tryz.laysSlF06_f23_ren:Go.Shelf.Ren:=⟨fun|6=>143|15=>192|14=>191|28=>229|29=>158|20=>221|21=>222|22=>223|23=>224|24=>225|25=>226|26=>227|27=>228|46=>241|47=>242|48=>243|49=>244|50=>245|57=>248|n=>n,fun|22=>32|24=>9|25=>27|3=>3|39=>76|0=>0|53=>104|55=>137|4=>4|46=>228|45=>227|50=>81|5=>5|9=>9|66=>254|70=>258|76=>262|77=>189|n=>n,fun|n=>n⟩
theorem Tryz.laysSlF06_f23:Go.Proofs.SlLaysF0.n6 Tryz.prog Tryz.laysSlF06_f23_ren:={
 mixed:=by kernel_rfl
 f6:=⟨Tryz.f143.name,by decide,sR Tryz.func143⟩
 f14:=⟨Tryz.f191.name,by decide,sR Tryz.func191⟩
 f15:=sR Tryz.func192
 f20:=⟨Tryz.f221.name,by decide,sR Tryz.func221⟩
 f21:=⟨Tryz.f222.name,by decide,sR Tryz.func222⟩
 f22:=⟨Tryz.f223.name,by decide,sR Tryz.func223⟩
 f23:=⟨Tryz.f224.name,by decide,sR Tryz.func224⟩
 f24:=⟨Tryz.f225.name,by decide,sR Tryz.func225⟩
 f25:=⟨Tryz.f226.name,by decide,sR Tryz.func226⟩
 f26:=⟨Tryz.f227.name,by decide,sR Tryz.func227⟩
 f27:=⟨Tryz.f228.name,by decide,sR Tryz.func228⟩
 f28:=sR Tryz.func229
 f29:=sR Tryz.func158
 f46:=⟨Tryz.f241.name,by decide,sR Tryz.func241⟩
 f47:=sR Tryz.func242
 f48:=sR Tryz.func243
 f49:=⟨Tryz.f244.name,by decide,sR Tryz.func244⟩
 f50:=⟨Tryz.f245.name,by decide,sR Tryz.func245⟩
 f57:=⟨Tryz.f248.name,by decide,sR Tryz.func248⟩
 t0:=Tryz.underlying0
 a0:=Tryz.isAgg0
 z0:=Tryz.sizeOf0
 v0:=Tryz.zeroValue0
 t3:=Tryz.underlying3
 a3:=Tryz.isAgg3
 z3:=Tryz.sizeOf3
 v3:=Tryz.zeroValue3
 t4:=Tryz.underlying4
 a4:=Tryz.isAgg4
 z4:=Tryz.sizeOf4
 v4:=Tryz.zeroValue4
 t5:=Tryz.underlying5
 a5:=Tryz.isAgg5
 z5:=Tryz.sizeOf5
 v5:=Tryz.zeroValue5
 t9:=Tryz.underlying9
 a9:=Tryz.isAgg9
 z9:=Tryz.sizeOf9
 v9:=Tryz.zeroValue9
 t22:=Tryz.underlying32
 a22:=Tryz.isAgg32
 z22:=Tryz.sizeOf32
 v22:=Tryz.zeroValue32
 t25:=Tryz.underlying27
 a25:=Tryz.isAgg27
 z25:=Tryz.sizeOf27
 v25:=Tryz.zeroValue27
 t39:=Tryz.underlying76
 a39:=Tryz.isAgg76
 z39:=Tryz.sizeOf76
 v39:=Tryz.zeroValue76
 t45:=Tryz.underlying227
 a45:=Tryz.isAgg227
 z45:=Tryz.sizeOf227
 v45:=Tryz.zeroValue227
 t46:=Tryz.underlying228
 a46:=Tryz.isAgg228
 z46:=Tryz.sizeOf228
 v46:=Tryz.zeroValue228
 t50:=Tryz.underlying81
 a50:=Tryz.isAgg81
 z50:=Tryz.sizeOf81
 v50:=Tryz.zeroValue81
 t53:=Tryz.underlying104
 a53:=Tryz.isAgg104
 z53:=Tryz.sizeOf104
 v53:=Tryz.zeroValue104
 t55:=Tryz.underlying137
 a55:=Tryz.isAgg137
 z55:=Tryz.sizeOf137
 v55:=Tryz.zeroValue137
 t66:=Tryz.underlying254
 a66:=Tryz.isAgg254
 z66:=Tryz.sizeOf254
 v66:=Tryz.zeroValue254
 t70:=Tryz.underlying258
 a70:=Tryz.isAgg258
 z70:=Tryz.sizeOf258
 v70:=Tryz.zeroValue258
 t76:=Tryz.underlying262
 a76:=Tryz.isAgg262
 z76:=Tryz.sizeOf262
 v76:=Tryz.zeroValue262
 t77:=Tryz.underlying189
 a77:=Tryz.isAgg189
 z77:=Tryz.sizeOf189
 v77:=Tryz.zeroValue189 }
open Go.RowKit Go.Lib Go.Sort in
theorem Tryz.slices_SortFunc_none{α:Type}[Inhabited α](p:Option Addr)(cap:Nat)(fv:Value)(w:World) :
 Calls Tryz.prog 143 #[.slice p 0 cap,fv] w λe w'=>e=.returned (.tuple #[])/\w'=w:=AnyF.slices_SortFunc_none Tryz.laysSlF06_f23 p cap fv w
def Tryz.laysSlF6_f23_ren:Go.Shelf.Ren:=⟨fun|6=>143|15=>192|14=>191|28=>229|29=>158|20=>221|21=>222|22=>223|23=>224|24=>225|25=>226|26=>227|27=>228|46=>241|47=>242|48=>243|49=>244|50=>245|57=>248|n=>n,fun|22=>32|24=>9|25=>27|3=>3|39=>76|0=>0|53=>104|55=>137|4=>4|46=>228|45=>227|50=>81|5=>5|9=>9|66=>254|70=>258|76=>262|77=>189|n=>n,fun|n=>n⟩
theorem Tryz.laysSlF6_f23:Go.Proofs.SlLaysF.n6 Tryz.prog Tryz.laysSlF6_f23_ren:={
 mixed:=by kernel_rfl
 f6:=⟨Tryz.f143.name,by decide,sR Tryz.func143⟩
 f14:=⟨Tryz.f191.name,by decide,sR Tryz.func191⟩
 f15:=sR Tryz.func192
 f20:=⟨Tryz.f221.name,by decide,sR Tryz.func221⟩
 f21:=⟨Tryz.f222.name,by decide,sR Tryz.func222⟩
 f22:=⟨Tryz.f223.name,by decide,sR Tryz.func223⟩
 f23:=⟨Tryz.f224.name,by decide,sR Tryz.func224⟩
 f24:=⟨Tryz.f225.name,by decide,sR Tryz.func225⟩
 f25:=⟨Tryz.f226.name,by decide,sR Tryz.func226⟩
 f26:=⟨Tryz.f227.name,by decide,sR Tryz.func227⟩
 f27:=⟨Tryz.f228.name,by decide,sR Tryz.func228⟩
 f28:=sR Tryz.func229
 f29:=sR Tryz.func158
 f46:=⟨Tryz.f241.name,by decide,sR Tryz.func241⟩
 f47:=sR Tryz.func242
 f48:=sR Tryz.func243
 f49:=⟨Tryz.f244.name,by decide,sR Tryz.func244⟩
 f50:=⟨Tryz.f245.name,by decide,sR Tryz.func245⟩
 f57:=⟨Tryz.f248.name,by decide,sR Tryz.func248⟩
 t0:=Tryz.underlying0
 a0:=Tryz.isAgg0
 z0:=Tryz.sizeOf0
 v0:=Tryz.zeroValue0
 t3:=Tryz.underlying3
 a3:=Tryz.isAgg3
 z3:=Tryz.sizeOf3
 v3:=Tryz.zeroValue3
 t4:=Tryz.underlying4
 a4:=Tryz.isAgg4
 z4:=Tryz.sizeOf4
 v4:=Tryz.zeroValue4
 t5:=Tryz.underlying5
 a5:=Tryz.isAgg5
 z5:=Tryz.sizeOf5
 v5:=Tryz.zeroValue5
 t9:=Tryz.underlying9
 a9:=Tryz.isAgg9
 z9:=Tryz.sizeOf9
 v9:=Tryz.zeroValue9
 t22:=Tryz.underlying32
 a22:=Tryz.isAgg32
 z22:=Tryz.sizeOf32
 v22:=Tryz.zeroValue32
 a24:=Tryz.isAgg9
 z24:=Tryz.sizeOf9
 t25:=Tryz.underlying27
 a25:=Tryz.isAgg27
 z25:=Tryz.sizeOf27
 v25:=Tryz.zeroValue27
 t39:=Tryz.underlying76
 a39:=Tryz.isAgg76
 z39:=Tryz.sizeOf76
 v39:=Tryz.zeroValue76
 t45:=Tryz.underlying227
 a45:=Tryz.isAgg227
 z45:=Tryz.sizeOf227
 v45:=Tryz.zeroValue227
 t46:=Tryz.underlying228
 a46:=Tryz.isAgg228
 z46:=Tryz.sizeOf228
 v46:=Tryz.zeroValue228
 t50:=Tryz.underlying81
 a50:=Tryz.isAgg81
 z50:=Tryz.sizeOf81
 v50:=Tryz.zeroValue81
 t53:=Tryz.underlying104
 a53:=Tryz.isAgg104
 z53:=Tryz.sizeOf104
 v53:=Tryz.zeroValue104
 t55:=Tryz.underlying137
 a55:=Tryz.isAgg137
 z55:=Tryz.sizeOf137
 v55:=Tryz.zeroValue137
 t66:=Tryz.underlying254
 a66:=Tryz.isAgg254
 z66:=Tryz.sizeOf254
 v66:=Tryz.zeroValue254
 t70:=Tryz.underlying258
 a70:=Tryz.isAgg258
 z70:=Tryz.sizeOf258
 v70:=Tryz.zeroValue258
 t76:=Tryz.underlying262
 a76:=Tryz.isAgg262
 z76:=Tryz.sizeOf262
 v76:=Tryz.zeroValue262
 t77:=Tryz.underlying189
 a77:=Tryz.isAgg189
 z77:=Tryz.sizeOf189
 v77:=Tryz.zeroValue189 }
open Go.RowKit Go.Lib Go.Sort in
theorem Tryz.slices_SortFunc_total{α:Type}[Inhabited α](enc:α->Value)(h1:OneCell enc)(cf:α->α->Int)(hO:SWO (ltOf cf))(g:Nat)(cb:Array Value)(blk off cap:Nat)(d:Array α)(w:World)(eg:∀args w,(callFunc g args).run Tryz.prog w=.ok (.enter g args) w)(hcmp:CmpLays1 Tryz.prog g cb enc cf blk off d.size w)(hH:Holds enc w blk off d)(hblk:blk<w.heap.size)(hsz:d.size<4611686018427387904)(hT:∀x y,(ltOf cf) x y=false->(ltOf cf) y x=false->x=y) :
 Calls Tryz.prog 143 #[.slice (some ⟨blk,off,none⟩) d.size cap,.func (.func g) #[] cb] w λe w' =>
  e=.returned (.tuple #[])/\∃n os,w'=sortWorld enc w blk off n (d.toList.mergeSort λx y=>!(ltOf cf) y x).toArray os:=Any.slices_SortFunc_total Tryz.laysSlF6_f23 enc h1 cf hO g cb blk off cap d w eg hcmp hH hblk hsz hT
end Go.Proofs
namespace Go.Proofs.YtbjbjbpgmojcbacGreatDoor
open Ar Bk Cd Dk Im Tk Tr Vy
open Tryz
variable{a:Ar.A}{b name p:ByteArray}{f g:ByteArray->Nat}{i:Int}{L ss xs:List ByteArray}{xs1 xs2 ys:List Value}{base cap k m n n1 n2:Nat}{o:Obj}{row:Option Nat}{e:TypeId}{v v1 v2:Value}{w w' w0 wr:World}
open Go.RowKit Go.Maps
theorem Ob{b o:Nat}(h:w.cell? ⟨b,o,none⟩=some v):b<w.heap.size:=by
 apply Nat.lt_of_not_le;intro hb;rw[World.cell?,Array.getElem?_eq_none hb]at h
 cases h
def Mx(w:World):Prop:=∃m,w.cell? ⟨0,0,none⟩=some (.int .i64 m)
theorem Mx.below(h:Mx w)(hb:ae w w'):Mx w':=by
 obtain⟨m,hm⟩:=h;exact⟨m,by rw[hb.cell (p:=⟨0,0,none⟩) (Ob hm)];exact hm⟩
theorem Oc(t p:ByteArray)(w:World)(h:Mx w)(ht:t.size<=4000000000) :
 Calls prog 15 #[.string t,.string p] w λe w'=>e=.returned (.int .i64 (Lib.index t.data.toList p.data.toList))/\w'=w:=by
 obtain⟨m,hm⟩:=h;exact Tryz.strings_Index t p m w (by omega) hm
theorem Of(t p:ByteArray)(w:World)(h:Mx w)(ht:t.size<=4000000000)(hp:0<p.size) :
 Calls prog 108 #[.string t,.string p] w λe w'=>e=.returned (.bool (Tr.st p t))/\w'=w:=by
 obtain⟨m,hm⟩:=h;rw[<-N9 t p hp];exact Tryz.strings_Contains t p m w (by omega) hm
theorem keyS:Keyed prog 9:=string_keyed underlying9
theorem iE(w:World):(zeroValue 3).run prog w=.ok (.int .i64 0) w:=by kernel_rfl
namespace Tr
def kl(p:ByteArray):Lit:=.string p.data.toList
theorem vo{q:ByteArray}(h:p≠q):kl p≠kl q:=by
 intro e;apply h;apply uk;rw[ByteArray.toList_eq,ByteArray.toList_eq];exact Lit.string.inj e
theorem Og(p:ByteArray):WideAt.IsKeyLit (kl p):=trivial
theorem vp(x:List UInt8):(⟨x.toArray⟩:ByteArray).size=x.length:=by show x.toArray.size=_;simp
def Y5(n:Int):DataW Unit:=.lit (.int .i64 n)
def VS(w:World)(b n:Nat)(f:ByteArray->Nat):Prop:=∃D:DataW Unit,w.ownsMap prog 9 (plainElem prog 3) b n D/\IsMap D ∧
 (∀q:ByteArray,q.size=4->D.atKey (kl q) (Y5 0)=Y5 (f q))/\(∀x:List UInt8,has D (.string x)=true->x.length=4/\1<=f ⟨x.toArray⟩)
theorem VS.made(w:World):VS (w.alloc (.map #[] 0)) w.heap.size 0 (λ_=>0) :=
 ⟨_,World.ownsMap_made _ _ _ _,isMap_empty,λ_ _=>rfl,λx h=>by simp[has]at h⟩
theorem VS.same{b:Nat}(h:VS w b n f)(hn:n<=m)(hf:∀q:ByteArray,q.size=4->f q=g q):VS w b m g:=by
 obtain⟨D,h1,h2,h3,h4⟩:=h;refine⟨D,h1.mono hn,h2,λq hq=>by rw[h3 q hq,hf q hq],λx hx=>?_⟩;obtain⟨h5,h6⟩:=h4 x hx;exact⟨h5,by rw[<-hf ⟨x.toArray⟩ ((vp x).trans h5)];exact h6⟩
theorem VS.put{b:Nat}{D:DataW Unit}(hp:p.size=4)(h2:IsMap D)(h3:∀q:ByteArray,q.size=4->D.atKey (kl q) (Y5 0)=Y5 (f q))(h4:∀x:List UInt8,has D (.string x)=true->x.length=4/\1<=f ⟨x.toArray⟩)
 (hown:w.ownsMap prog 9 (plainElem prog 3) b n (D.put (kl p) (Y5 (g p:Nat)))) (hg:g p=f p+1) (hgo:∀q:ByteArray,q.size=4->q≠p->g q=f q):VS w b n g:=by
 refine⟨_,hown,h2.put _ _,λq hq=>?_,λx hx=>?_⟩
 ·by_cases e:q=p
  ·subst e;exact atKey_put_same h2 (Og q) _ _
  ·rw[atKey_put_other (vo e),h3 q hq,hgo q hq e]
 ·by_cases e:(⟨x.toArray⟩:ByteArray)=p
  ·subst e;exact⟨(vp x).symm.trans hp,by omega⟩
  ·have hne:=vo e;have hx2:kl ⟨x.toArray⟩=.string x:=by simp[kl]
   rw[hx2]at hne;rw[has_put_other hne]at hx;obtain⟨h5,h6⟩:=h4 x hx;exact⟨h5,by rw[hgo _ ((vp x).trans h5) e];exact h6⟩
end Tr
open Go.WideMaps
theorem Oh(xs:List ByteArray)(b off cap:Nat)(w:World)(hx:WV w b off xs)(hn:xs.length<=12)(hB:∀i,(VA xs i).size<=512)(hM:Mx w) :
 Calls prog 142 #[.slice (some ⟨b,off,none⟩) xs.length cap] w λe w'=>e=.returned (.map (some w.heap.size))/\VS w' w.heap.size 6144 (Tr.ct xs)/\ae w w':=by
 have HX:=Za λw' (h:WV w' b off xs)=>h.2
 have HB:=Za hB;clear hB;have hn':(xs.length:Int)<=12:=by omega
 have hmm:=@run_makeMap prog
 have HX0:Hid (∀w',ae w w'->WV w' b off xs/\Mx w'):=λw' h=>⟨hx.below h,hM.below h⟩
 go_enter func142,ntmps142
 go_wp2_with fail
 go_loopw [11] (λi wr=>∃k:Nat,k<=xs.length/\i=.int .i64 k/\VS wr w.heap.size (512*k) (λq=>iJ xs q k)/\WV wr b off xs/\Mx wr/\ae w wr) (λi _=>xs.length-(intOf i).toNat)
 case atStart=>exact⟨0,by omega,rfl,VS.made _,hx.below ((bR _ _).alloc (nl _) _),hM.below ((bR _ _).alloc (nl _) _),(bR _ _).alloc (nl _) _⟩
 case round =>
  clear hx hM hmm;obtain⟨k,hk2,rfl,hC,hx,hM,B1⟩:=hrel;by_cases hlt:k<xs.length
  ·have d1:=al (by omega:(k:Int)<(xs.length:Int));have d1':=al (by omega:k<xs.length);have hki:(k:Int)<(xs.length:Int):=by omega
   have c1:=HX.out wr hx k hlt;have gj:=HB.out k
   obtain⟨X,hX⟩:∃X,VA xs k=X:=⟨_,rfl⟩
   rw[hX]at c1 gj;have gJ:=Za hX;clear hX;go_wp2_with fail
   go_loopw [19] (λi wr2=>∃j:Nat,j<=X.size-3/\i=.int .i64 j/\VS wr2 w.heap.size (512*k+j) (Xq xs k j)/\WV wr2 b off xs/\Mx wr2/\ae w wr2) (λi _=>X.size-3-(intOf i).toNat)
   case atStart=>exact⟨0,by omega,rfl,hC.same (by omega) (λq _=>(aaz xs k q).symm),hx,hM,B1⟩
   case round =>
    clear c1 hC hx hM B1;obtain⟨j,hj2,rfl,hC,hx,hM,B1⟩:=hrel;by_cases hjl:j<X.size-3
    ·have e1:decide ((j:Int)<(X.size:Int)-4+1)=true:=al (by omega);have hji:(j:Int)+4<=(X.size:Int):=by omega
     have hjn:j+4<=X.size:=by omega
     have vq:(j:Int)<=512:=by omega
     obtain⟨P,hP⟩:∃P,X.extract j (j+4)=P:=⟨_,rfl⟩
     have HP:Hid (Y3 X j=P):=hP;have gu:Hid (P.size=4):=by show _=_;rw[<-HP.out];exact qW hjl
     have HI:=Za (N8 X P (by rw[gu.out];omega) j (by rw[gu.out];omega) (by rw[gu.out];exact HP.out));have c2:=Oc X P _ hM (by omega);generalize Lib.index X.data.toList P.data.toList=r at*
     cases hs:dM P X j with
     |true =>
      have HN:=Za λ(q:ByteArray) (hq:q.size=4)=>(EX (by rw[gJ.out,HP.out];exact hs) hq).symm
      have hr:=of_decide_eq_false (by rw[HI.out,hs];rfl);have e2:=dF hr;have e3:(r==(j:Int))=false:=by simpa using hr
      clear hr hs HI;go_wp2_with fail
      refine mo c2 ?_;rintro w2 rfl;go_wp2_with fail
      go_roundw
      case rel=>exact⟨j+1,by omega,by go_num,hC.same (by omega) HN.out,hx,hM,B1⟩
      case measure=>simp[intOf];omega
     |false =>
      have HN:Hid (Xq xs k (j+1) P=Xq xs k j P+1):=by
       have:=EY (xs:=xs) (k:=k) (i:=j) (by rw[gJ.out];exact hjl) (by rw[gJ.out,HP.out];exact hs);rw[gJ.out,HP.out]at this;exact this
      have HO:=Za λ(q:ByteArray) (hq:q.size=4) (hne:q≠P)=>zu hq (by rw[gJ.out,HP.out];exact hne)
      have hr:=of_decide_eq_true (by rw[HI.out,hs];rfl);subst hr;obtain⟨D,hown,hD2,hD3,hD4⟩:=hC;have hkey:keyOf prog 9 (.string P)=some (Tr.kl P):=keyOf_string_mk U9 (by rw[gu.out];decide);have hcn:=EZ xs k j P;clear hs HI;go_wp2_with fail
      refine mo c2 ?_;rintro w2 rfl
      obtain⟨C,hC⟩:∃C:Nat,Xq xs k j P=C:=⟨_,rfl⟩
      have HC:=Za hC;rw[hC]at hcn;clear hC;have hci:(C:Int)<=13:=by omega
      have wf1:(Lit.int .i64 ((C:Int)+1)).wf=true:=WalkArith.wf_i64 (by omega)
      have zv:∀c:Int,D.atKey (Tr.kl P) (.lit (.int .i64 0))=.lit (.int .i64 c)->c=(C:Int):=by
       intro c h9;have h8:=h9.symm.trans (hD3 P gu.out);rw[HC.out]at h8;simpa[Y5]using h8
      go_wp2_with (first
       |(at_lookup;refine wpList_lookup_own_int _ rfl _ _ 151 rfl 9 3 .i64 keyS cI fw (iE _) w.heap.size (512*k+j) _ rfl hown _ _ rfl hkey ?_;intro c hat hwc;obtain rfl:=zv c hat;clear hat hwc)
       |(at_mapUpdate;refine wpList_mapUpdate_own _ rfl _ _ _ 151 rfl 9 3 keyS cI _ w.heap.size (512*k+j) _ rfl hown (by unfold maxLen;omega) _ _ _ rfl rfl hkey _ [] (plainElem_int fw wf1) ?_;intro w1 hown1 hgrow1)
       |fail)
      have hC2:VS w1 w.heap.size (512*k+(j+1)) (Xq xs k (j+1)):=VS.put gu.out hD2 hD3 hD4 (by rw[HN.out,HC.out];exact hown1) HN.out HO.out;have B2:=B1.grown hgrow1 B1.size (λj hj=>by cases hj;exact nl _);clear hown hown1 hgrow1 B1 hx hM;go_roundw
      case rel=>exact⟨j+1,by omega,by go_num,hC2,(HX0.out _ B2).1,(HX0.out _ B2).2,B2⟩
      case measure=>simp[intOf];omega
    ·have e1:decide ((j:Int)<(X.size:Int)-4+1)=false:=dF (by omega);have hC2:VS wr w.heap.size (512*(k+1)) (λq=>iJ xs q (k+1)):=hC.same (by omega) (λq hq=>EW hq (by rw[gJ.out];omega));clear hC;go_wp2_with fail
     go_roundw
     case rel=>exact⟨k+1,by omega,by go_num,hC2,hx,hM,B1⟩
     case measure=>simp[intOf];omega
  ·obtain rfl:k=xs.length:=by omega
   have d1:decide ((xs.length:Int)<(xs.length:Int))=false:=by simp
   go_wp2_with fail
   go_ret
   exact⟨rfl,hC.same (by omega) (λ_ _=>rfl),B1⟩
theorem Oi(ad:Option Addr)(cap:Nat)(w:World) :
 Calls prog 142 #[.slice ad 0 cap] w λe w'=>e=.returned (.map (some w.heap.size))/\VS w' w.heap.size 6144 (Tr.ct [])/\ae w w':=by
 have hmm:=@run_makeMap prog;go_enter func142,ntmps142
 go_wp2_with fail
 go_loopw [11] (λi wr=>i=.int .i64 0/\VS wr w.heap.size 0 (Tr.ct [])/\ae w wr) (λi _=>0)
 case atStart=>exact⟨rfl,VS.made _,(bR _ _).alloc (nl _) _⟩
 case round =>
  obtain⟨rfl,hC,B1⟩:=hrel;go_wp2_with fail
  go_ret
  exact⟨rfl,hC.same (by omega) (λ_ _=>rfl),B1⟩
theorem Oj(xs:List ByteArray)(ad:Option Addr)(cap:Nat)(w:World)(hx:bz w ad xs)(hn:xs.length<=12)(hB:∀i,(VA xs i).size<=512)(hM:Mx w) :
 Calls prog 142 #[.slice ad xs.length cap] w λe w'=>e=.returned (.map (some w.heap.size))/\VS w' w.heap.size 6144 (Tr.ct xs)/\ae w w':=by
 rcases hx with rfl|⟨b,off,rfl,h2⟩
 ·exact Oi ad cap w
 ·exact Oh xs b off cap w h2 hn hB hM
namespace Tr
def kU(xs:List ByteArray)(a b:ByteArray):Int:=if ct xs a=ct xs b then Lib.compareBytes a.data.toList b.data.toList else(ct xs b:Int)-(ct xs a:Int)
theorem gC(xs:List ByteArray)(a b:ByteArray):decide (kU xs a b<0)=lt xs a b:=by
 unfold kU lt;by_cases h:ct xs a=ct xs b
 ·rw[ax h,BJ];simp[h]
 ·rw[ab h];by_cases h2:ct xs b<ct xs a
  ·simp[h2];omega
  ·rw[decide_eq_false h2,Bool.false_or,show(ct xs a==ct xs b)=false from by simpa using h,Bool.false_and];exact dF (by omega)
theorem VS.kV{D:DataW Unit}(h3:∀q:ByteArray,q.size=4->D.atKey (kl q) (Y5 0)=Y5 (ct xs q))(p:ByteArray)(hp:p.size=4)(c:Int)(h9:D.atKey (kl p) (.lit (.int .i64 0))=.lit (.int .i64 c)):c=(ct xs p:Int):=by
 have h8:=h9.symm.trans (h3 p hp);simpa[Y5]using h8
end Tr
theorem Ol(xs:List ByteArray)(hn:xs.length<=12)(a b:ByteArray)(ha:a.size=4)(hb:b.size=4)(bx mb:Nat)(w:World)(hc:w.cell? ⟨bx,0,none⟩=some (.map (some mb)))(hC:VS w mb 6144 (Tr.ct xs)) :
 Calls prog 144 #[.string a,.string b,.pointer (some ⟨bx,0,none⟩)] w λe w'=>e=.returned (.int .i64 (kU xs a b))/\w'=w:=by
 obtain⟨D,hown,hD2,hD3,hD4⟩:=hC;have hka:keyOf prog 9 (.string a)=some (Tr.kl a):=keyOf_string_mk U9 (by rw[ha];decide);have hkb:keyOf prog 9 (.string b)=some (Tr.kl b):=keyOf_string_mk U9 (by rw[hb];decide);have sC:=VS.kV hD3 a ha;have sD:=VS.kV hD3 b hb;have l1:=Y6 xs a xs.length;have l2:=Y6 xs b xs.length;have c9:=Tryz.strings_Compare a b w;unfold kU
 change Tr.ct xs a<=_ at l1
 change Tr.ct xs b<=_ at l2
 generalize Tr.ct xs a=A at*;generalize Tr.ct xs b=B at*;have hA:(A:Int)<=12:=by omega
 have hB:(B:Int)<=12:=by omega
 clear hD2 hD3 hD4 ha hb;by_cases h:A=B
 ·subst h;rw[ax rfl];generalize Lib.compareBytes a.data.toList b.data.toList=r at*;go_enter func144,ntmps144
  go_wp2_with (first
   |(at_lookup;refine wpList_lookup_own_int _ rfl _ _ 151 rfl 9 3 .i64 keyS cI fw (iE _) mb 6144 _ rfl hown _ _ rfl hka ?_;intro c hat hwc;obtain rfl:=sC c hat;clear hat hwc)
   |(at_lookup;refine wpList_lookup_own_int _ rfl _ _ 151 rfl 9 3 .i64 keyS cI fw (iE _) mb 6144 _ rfl hown _ _ rfl hkb ?_;intro c hat hwc;obtain rfl:=sD c hat;clear hat hwc)
   |fail)
  refine mo c9 ?_;rintro w2 rfl;go_wp2_with fail
  go_ret
  exact⟨rfl,rfl⟩
 ·rw[ab h];have h':¬(A:Int)=(B:Int):=by omega
  have d1:=dF h';have d2:((A:Int)==(B:Int))=false:=by simpa using h'
  have d3:((A:Int) != (B:Int))=true:=by simpa using h'
  go_enter func144,ntmps144
  go_wp2_with (first
   |(at_lookup;refine wpList_lookup_own_int _ rfl _ _ 151 rfl 9 3 .i64 keyS cI fw (iE _) mb 6144 _ rfl hown _ _ rfl hka ?_;intro c hat hwc;obtain rfl:=sC c hat;clear hat hwc)
   |(at_lookup;refine wpList_lookup_own_int _ rfl _ _ 151 rfl 9 3 .i64 keyS cI fw (iE _) mb 6144 _ rfl hown _ _ rfl hkb ?_;intro c hat hwc;obtain rfl:=sD c hat;clear hat hwc)
   |fail)
  go_ret
  exact⟨rfl,rfl⟩
open Go.Sort Go.Shelf
namespace Tr
def aaA(xs:List ByteArray)(D:DataW Unit)(left:Lit->Bool)(ss:List ByteArray):Prop:=ss.Nodup/\∀q,q∈ss↔(has D (kl q)=true/\left (kl q)=false/\2<=ct xs q)
theorem aaA.start(xs:List ByteArray)(D:DataW Unit):aaA xs D (has D) []:=⟨List.nodup_nil,λq=>by cases has D (kl q)<;>simp⟩
theorem Om(p:ByteArray):(kl p).sameKey (kl p)=true:=by simp[kl,Lit.sameKey]
theorem aaA.yes{D:DataW Unit}{left:Lit->Bool}(h:aaA xs D left ss){x:ByteArray}(hl:left (kl x)=true)(hh:has D (kl x)=true)(h2:2<=ct xs x):aaA xs D (λz=>left z && !z.sameKey (kl x)) (ss++[x]):=by
 refine⟨?_,λq=>?_⟩
 ·rw[List.nodup_append];refine⟨h.1,by simp,λa ha b hb=>?_⟩;rw[List.mem_singleton]at hb;rintro rfl;subst hb;have:=((h.2 a).1 ha).2.1;rw[hl]at this;cases this
 ·rw[List.mem_append,List.mem_singleton,h.2 q];by_cases e:q=x
  ·subst e;simp[hh,h2,Om]
  ·simp[sameKey_ne (vo e),e]
theorem aaA.no{D:DataW Unit}{left:Lit->Bool}(h:aaA xs D left ss){x:ByteArray}(h2:ct xs x<2):aaA xs D (λz=>left z && !z.sameKey (kl x)) ss:=by
 refine⟨h.1,λq=>?_⟩;rw[h.2 q];by_cases e:q=x
 ·subst e;constructor
  ·rintro⟨_,_,h3⟩;omega
  ·rintro⟨_,_,h3⟩;omega
 ·simp[sameKey_ne (vo e)]
theorem aaA.all{D:DataW Unit}{left:Lit->Bool}(h:aaA xs D left ss)(hl:∀k,left k=false)(h3:∀q:ByteArray,q.size=4->D.atKey (kl q) (Y5 0)=Y5 (ct xs q))(h4:∀x:List UInt8,has D (.string x)=true->x.length=4/\1<=ct xs ⟨x.toArray⟩) :
 ∀q,q∈ss↔(q.size=4/\2<=ct xs q):=by
 intro q;rw[h.2 q];constructor
 ·rintro⟨h5,_,h6⟩;have:=(h4 q.data.toList h5).1;exact⟨by rw[<-this];simp,h6⟩
 ·rintro⟨h5,h6⟩;refine⟨?_,hl _,h6⟩
  cases hh:has D (kl q) with
  |true=>rfl
  |false =>
   have h7:=h3 q h5;rw[atKey_of_not_has hh]at h7;simp[Y5]at h7;omega
structure Yy where
 val:ByteArray
 four:val.size=4
instance:Inhabited Yy:=⟨⟨⟨#[0,0,0,0]⟩,rfl⟩⟩
theorem Yy.same:∀{a b:Yy} ,a.val=b.val->a=b
 |⟨_,_⟩,⟨_,_⟩,rfl=>rfl
def enc(p:Yy):Value:=.string p.val
def jR(xs:List ByteArray)(a b:Yy):Int:=kU xs a.val b.val
theorem oU(xs:List ByteArray)(a b:Yy):ltOf (jR xs) a b=lt xs a.val b.val:=gC xs a.val b.val
theorem swo(xs:List ByteArray):SWO (ltOf (jR xs)) where
 irrefl x:=by rw[oU,BK]
 trans x y z h1 h2:=by rw[oU]at*;exact lt_trans h1 h2
 ntrans x y z h1 h2:=by rw[oU]at*;exact BM h1 h2
theorem parts(xs:List ByteArray)(x y:Yy)(h1:ltOf (jR xs) x y=false)(h2:ltOf (jR xs) y x=false):x=y:=by
 rw[oU]at*;exact Yy.same (um h1 h2)
theorem Y7{g:Nat}{os:Array Obj}(d:Array Yy):w.grownBy (sortWorld enc w g 0 n d os) (some g):=by
 unfold sortWorld;refine⟨rfl,rfl,rfl,by simp,λk hk hne=>?_⟩;rw[heap_grow_old _ _ (by simpa using hk)];have:g≠k:=λe=>hne (by rw[e])
 simp[putRow,mapBlock,Sort.ahead,Array.getElem?_modify,this]
theorem VS.kept{b:Nat}(h:VS w b n f)(hg:w.grownBy w' row)(hne:some b≠row):VS w' b n f:=by
 obtain⟨D,h1,h2⟩:=h;exact⟨D,h1.kept hg hne,h2⟩
theorem Oo(h:ss.Nodup)(h4:∀q,q∈ss↔(q.size=4/\2<=ct xs q))(ps:List Yy)(hps:ps.map Yy.val=ss) :
 Rk xs ((ps.mergeSort λx y=>!ltOf (jR xs) y x).map Yy.val):=by
 have hperm:=List.mergeSort_perm ps (λx y=>!ltOf (jR xs) y x);refine⟨?_,λp=>?_⟩
 ·have hs:(ps.mergeSort λx y=>!ltOf (jR xs) y x).Pairwise (λx y=>(!ltOf (jR xs) y x)=true):=by
   refine List.pairwise_mergeSort ?_ ?_ ps
   ·intro a b c h1 h2;simp only[Bool.not_eq_true',oU]at*;exact BM h2 h1
   ·intro a b;simp only[Bool.or_eq_true,Bool.not_eq_true',oU]
    cases h9:lt xs b.val a.val with
    |false=>exact .inl rfl
    |true=>exact .inr (BL h9)
  have hnd:(ps.mergeSort λx y=>!ltOf (jR xs) y x).Nodup:=by
   rw[hperm.nodup_iff];subst hps;exact(List.pairwise_map.1 h).imp λhne e=>hne (congrArg _ e)
  refine List.pairwise_map.2 ?_;refine(hs.and hnd).imp ?_;rintro a b ⟨h1,h2⟩;simp only[Bool.not_eq_true',oU]at h1
  cases h9:lt xs a.val b.val with
  |true=>rfl
  |false=>exact absurd (Yy.same (um h9 h1)) h2
 ·rw[<-h4 p,<-hps,List.mem_map,List.mem_map];constructor
  ·rintro⟨a,h1,h2⟩;exact⟨a,hperm.mem_iff.1 h1,h2⟩
  ·rintro⟨a,h1,h2⟩;exact⟨a,hperm.mem_iff.2 h1,h2⟩
theorem lift:∀ss:List ByteArray,(∀q∈ss,q.size=4)->∃ps:List Yy,ps.map Yy.val=ss
 |[],_=>⟨[],rfl⟩
 |a :: ss,h=>by
  obtain⟨ps,hp⟩:=lift ss (λq hq=>h q (List.mem_cons_of_mem _ hq));exact⟨⟨a,h a (List.mem_cons_self ..)⟩ :: ps,by rw[List.map_cons,hp]⟩
def XU(lo:Nat)(w:World)(ad:Option Addr)(xs:List ByteArray):Prop:=xs=[]\/∃b off,ad=some ⟨b,off,none⟩/\lo<=b/\WV w b off xs
theorem Oq{g:Nat}{cur:Array Value}{ps:List Yy}(hb:w.heap[g]?=some (.cells cur e (0,0)))(ht:cur.toList.take ps.length=ps.map enc):Holds enc w g 0 ps.toArray:=by
 intro j hj;have hj':j<ps.length:=by simpa using hj
 refine⟨?_,by simp[World.frozen?,hb]⟩;have h1:(cur.toList.take ps.length)[j]?=(ps.map enc)[j]?:=by rw[ht]
 rw[List.getElem?_take_of_lt hj']at h1;simp only[World.cell?,hb,Nat.zero_add];simp only[Option.isSome_none,Bool.false_eq_true,if_false];rw[<-Array.getElem?_toList,h1];simp[hj']
theorem Ot{g:Nat}{ps:List Yy}(hg:g<w.heap.size)(h:Holds enc w g 0 ps.toArray):WV w g 0 (ps.map Yy.val):=by
 refine⟨hg,λi hi=>?_⟩;rw[List.length_map]at hi;rw[(h i (by simpa using hi)).1];simp[VA,enc,hi]
end Tr
theorem Ou(xs:List ByteArray)(hn:xs.length<=12)(ps:List Yy)(hl:ps.length<=6144)(g cap mb bx:Nat)(w:World)(hH:Holds Tr.enc w g 0 ps.toArray)(hg:g<w.heap.size)(hgm:mb≠g)(hgb:bx≠g)
 (hcx:w.cell? ⟨bx,0,none⟩=some (.map (some mb))) (hC:VS w mb 6144 (Tr.ct xs)) :
 Calls prog 143 #[.slice (some ⟨g,0,none⟩) ps.length cap,.func (.func 144) #[] #[.pointer (some ⟨bx,0,none⟩)]] w λe w' =>
  e=.returned (.tuple #[])/\WV w' g 0 ((ps.mergeSort λx y=>!ltOf (jR xs) y x).map Yy.val)/\w.grownBy w' (some g):=by
 have eg:∀args w,(callFunc 144 args).run prog w=.ok (.enter 144 args) w:=enters_of func144 (by kernel_rfl) rfl;have hcon:=Tryz.slices_SortFunc_total Tr.enc (λ_=>rfl) (jR xs) (Tr.swo xs) 144 #[.pointer (some ⟨bx,0,none⟩)] g 0 cap ps.toArray w eg
  (λm os dk _ x y=>(Ol xs hn x.val y.val x.four y.four bx mb _ ((Y7 dk).cell hcx (by simpa using hgb)) (hC.kept (Y7 dk) (by simpa using hgm))).mono λe w' ⟨he,hw⟩=>⟨he,0,#[],by rw[hw,grow_empty];rfl⟩)
  hH hg (by simp;omega) (Tr.parts xs)
 have hs:ps.toArray.size=ps.length:=by simp
 rw[hs]at hcon;refine mo hcon ?_;rintro w' ⟨n,os,rfl⟩;refine⟨rfl,Ot (lt_sortWorld _ _ _ _ _ _ _ hg) (holds_sortWorld Tr.enc w g 0 n ps.toArray _ os hg hH (by simp)),Y7 _⟩
theorem Ov(xs:List ByteArray)(ad:Option Addr)(cap:Nat)(w:World)(hx:bz w ad xs)(hn:xs.length<=12)(hB:∀i,(VA xs i).size<=512)(hM:Mx w) :
 Calls prog 105 #[.slice ad xs.length cap] w λe w'=>∃ad' cap' L,e=.returned (.slice ad' (L:List ByteArray).length cap')/\L.length<=cap'/\L.length<=6144/\XU w.heap.size w' ad' L/\Rk xs L/\ae w w':=by
 have c1:=Oj xs ad cap w hx hn hB hM;clear hB hM hx;obtain⟨i0,hi,hz0,hz1,hz2⟩:=info_parts (P:=prog) (e:=9) (z:=.string ⟨#[]⟩) (size:=1) (bytes:=16) (by kernel_rfl);go_enter func105,ntmps105
 go_wp2_with fail
 refine mo c1 ?_;rintro w1 ⟨⟨D,hown,hD2,hD3,hD4⟩,B1⟩;clear c1;have hs1:=hown.lt
 go_wp2_with (first
  |(at_range;refine wpList_range_own _ rfl _ 151 rfl 9 3 keyS cI _ w.heap.size 6144 _ rfl (hown.alloc _) ?_;intro w0 hrg0 hg0 hs0)
  |fail)
 go_frame
 have hs9:(w1.alloc (.cells #[.map (some w.heap.size)] 151 (0,0))).heap.size=w1.heap.size+1:=by simp
 have hcx:w0.cell? ⟨w1.heap.size,0,none⟩=some (.map (some w.heap.size)):=hg0.cell (cell_one_new _ _ _ 0 _ rfl) (by simp);have B0:=(B1.alloc B1.size _).grown hg0 (by simp;omega) (λj hj=>by cases hj);have hz:=hown.size_le;generalize (w1.alloc (.cells #[.map (some w.heap.size)] 151 (0,0))).heap.size=r at hs9 hrg0 hs0 |-
 have hs8:=Za hs9;clear hs9
 go_loopw [4] (λv wr=>∃(left:Lit->Bool) (cnt:Nat) (ss:List ByteArray),wr.ranges prog 9 (plainElem prog 3) w.heap.size r 6144 D left cnt/\ss.length+cnt<=6144 ∧
  wr.ownsRow (w1.heap.size+2) 9 1 v ss.length (ss.map Value.string)/\aaA xs D left ss/\wr.cell? ⟨w1.heap.size,0,none⟩=some (.map (some w.heap.size))/\w1.heap.size+2<=wr.heap.size/\ae w wr)
  (λ_ wr=>wr.rangeLeft w.heap.size r)
 case atStart=>exact⟨_,_,[],hrg0,by simpa using hz,⟨rfl,.inl ⟨rfl,rfl⟩⟩,aaA.start xs D,hcx,by have:=hs8.out;omega,B0⟩
 case round =>
  clear hrg0 hg0 hs0 hcx B0 hz;obtain⟨left,cnt,ss,hrg,hcs,hrow,hG,hcx,hsz,hnx⟩:=hrel
  go_wp2_with (first
   |(at_next;(refine wpList_next_ranges _ rfl _ rfl 9 keyS (plainElem prog 3) Value.string (Value.int .i64) (λkey kl hk=>by obtain⟨x,hx,_⟩:=Maps.keyOf_str U9 hk;exact⟨⟨x.toArray⟩,hx⟩) (λv y hv=>by obtain⟨c,rfl,_⟩:=plainElem_int_inv fw hv;exact⟨c,rfl⟩) w.heap.size r 6144 _ _ _ rfl hrg ?_ ?_))
   |fail)
  ·intro hc0 hl0;have hall:=hG.all hl0 hD3 hD4;obtain⟨ps,hps⟩:=Tr.lift ss (λq hq=>((hall q).1 hq).1);have HR:=Za (Oo hG.1 hall ps hps);have hlen:ps.length=ss.length:=by rw[<-hps,List.length_map]
   have hCM:VS wr w.heap.size 6144 (Tr.ct xs):=⟨D,hrg.owns,hD2,hD3,hD4⟩
   rcases hrow.2 with⟨hnil,hn0⟩|⟨g,cap',cur,hv,hbase,hb,h1,h2,h3,h4⟩
   ·have c2:=λfv=>Tryz.slices_SortFunc_none (α:=Yy) none 0 fv wr
    obtain rfl:ps=[]:=lZ.1 (by omega);clear hrow hps hlen hn0 hall hG hrg hcx hCM hown;subst hnil;go_wp2_with fail
    refine mo (c2 _) ?_;rintro w2 rfl;go_wp2_with fail
    go_ret
    exact⟨none,0,[],rfl,by simp,by simp,.inl rfl,by simpa using HR.out,hnx⟩
   ·have hH:=Oq hb (by rw[hlen,<-Nat.mul_one ss.length,h4,<-hps,List.map_map];rfl);have hgl:=(aG.1 hb).1;have c2:=Ou xs hn ps (by omega) g cap' w.heap.size w1.heap.size wr hH hgl (by omega) (by omega) hcx hCM;have hll:((ps.mergeSort λx y=>!ltOf (jR xs) y x).map Yy.val).length=ss.length:=by rw[List.length_map,List.length_mergeSort,hlen]
    rw[hlen]at c2;generalize (ps.mergeSort λx y=>!ltOf (jR xs) y x).map Yy.val=L at*;have oV:=Za hll;clear hrow hps hlen hall hG hrg hcx hCM hown h4 h3 hb hH hll;subst hv;go_wp2_with fail
    refine mo c2 ?_;rintro w2 ⟨hT,hgr⟩;have B2:=hnx.grown hgr hnx.size (λj hj=>by cases hj;omega);go_wp2_with fail
    go_ret
    exact⟨some ⟨g,0,none⟩,cap',L,by rw[oV.out];rfl,by rw[oV.out];exact h1,by rw[oV.out];omega,.inr ⟨g,0,rfl,by omega,hT⟩,HR.out,B2⟩
  ·intro x c kl yd yp w2 cnt2 hkey hlk hv hat hrg2 hlt hg2 hs2 hen;obtain⟨x',ex,rfl,_⟩:=Maps.keyOf_str U9 hkey;obtain rfl:x=⟨x'.toArray⟩:=by cases ex;rfl
   have hkx:Lit.string x'=Tr.kl ⟨x'.toArray⟩:=by simp[Tr.kl]
   have hx4:=hD4 x' (has_true_of_atKey hat);rw[hkx]at hlk hrg2 hat;have hh:=has_true_of_atKey hat;obtain⟨c',hc1,hc2,_⟩:=plainElem_int_inv fw hv;obtain rfl:c=c':=by cases hc1;rfl
   have hcc:=VS.kV hD3 _ ((Tr.vp x').trans hx4.1) c (by rw[hat];cases hc2;rfl);have hrow2:=hrow.kept hg2 (Or.inr (row_ne_iter hrow hrg).symm);have sE:=hg2.cell hcx (by simp;have:=hs8.out;omega);have hsz2:w1.heap.size+2<=w2.heap.size:=by omega
   have B2:=hnx.grown hg2 hnx.size (λj hj=>by cases hj;have:=hs8.out;omega);generalize (⟨x'.toArray⟩:ByteArray)=X at*;clear hs2 hrow hcx hnx hkey hx4 ex hc1 hc2 hv;by_cases h2:2<=Tr.ct xs X
   ·have hci:(2:Int)<=c:=by omega
    have d1:=al hci;have hG2:=hG.yes hlk hh h2;clear hcc hG
    go_wp2_with (first
     |(at_builtin;refine wpList_append_own _ rfl _ _ 32 rfl (w1.heap.size+2) 9 i0 (.string ⟨#[]⟩) 1 16 je hi hz0 hz1 hz2 rfl (by decide) _ _ _ rfl (hrow2.alloc _) ⟨w2.heap.size,0,none⟩ 1 1 [.string X] rfl rfl (cell_one_new _ _ _) (by simp[Value.oneCell']) (by unfold maxLen at*;omega) (by omega) (by simp;omega) ?_;intro v' w3 hown' hg3 hnil3;go_frame)
     |fail)
    have hne1:=row_ne_low hrow2 (b:=w.heap.size) (by omega);have hne2:=row_ne_iter hrow2 hrg2;have zx:=row_ne_low hrow2 (b:=w1.heap.size) (by omega);have hrg3:=(hrg2.alloc (.cells #[.string X] 9 (0,0))).kept hg3 hne1 hne2;have zy:=hg3.cell (((World.grownBy_alloc w2 (.cells #[.string X] 9 (0,0)) none).cell sE (by simp))) zx;have hsz3:w1.heap.size+2<=w3.heap.size:=by have:=hg3.size;simp at this;omega
    have B3:=(B2.alloc B2.size (.cells #[.string X] 9 (0,0))).grown hg3 (by simp;omega) (λj hj=>by have:=(hrow2.lt j hj).1;omega);go_roundw
    case rel=>exact⟨_,cnt2,ss++[X],hrg3,by simp;omega,by simpa using hown',hG2,zy,hsz3,B3⟩
    case measure=>rw[hrg3.left_eq,hrg.left_eq];exact hlt
   ·have hci:¬(2:Int)<=c:=by omega
    have d1:=dF hci;have hG2:=hG.no (x:=X) (by omega);clear hcc hG;go_wp2_with fail
    go_roundw
    case rel=>exact⟨_,cnt2,ss,hrg2,by omega,hrow2,hG2,sE,hsz2,B2⟩
    case measure=>rw[hrg2.left_eq,hrg.left_eq];exact hlt
namespace Ar
def qj(a:A)(k:Nat):ByteArray:=if k=0 then⟨#[]⟩ else(Nm a.files (k-1)).name
theorem Ow(h:bI b=true):0<b.size:=by
 unfold bI at h;rw[Bool.and_eq_true]at h;have:=of_decide_eq_true h.1;omega
theorem Ox(h:bI b=true):b.size<=12:=by
 unfold bI at h;rw[Bool.and_eq_true]at h;have:=of_decide_eq_true h.1;omega
theorem Oy(n:ByteArray):VI n ⟨#[]⟩=false:=by
 unfold VI;rw[show(⟨#[]⟩:ByteArray).toList=[] by rw[ByteArray.toList_eq]]
 cases n.toList<;>rfl
theorem OA(hn:bI (Nm a.files k).name=true) :
 (decide (k=0)||VI (Nm a.files (k-1)).name (Nm a.files k).name)=!(Op.bytesLess (Nm a.files k).name.toList (qj a k).toList||((Nm a.files k).name.toList==(qj a k).toList)):=by
 have hp:=Ow hn;unfold qj;by_cases h0:k=0
 ·subst h0;rw[ax rfl];have h1:=Oy (Nm a.files 0).name;unfold VI at h1;have e2:decide ((Nm a.files 0).name=⟨#[]⟩)=false:=dF (λe=>by rw[e]at hp;exact absurd hp (Nat.lt_irrefl 0));rw[h1,nN,e2];simp
 ·rw[ab h0,decide_eq_false h0,Bool.false_or,nN];generalize (Nm a.files (k-1)).name=l;generalize (Nm a.files k).name=n
  cases h1:VI l n with
  |true =>
   have h2:=Nt h1;unfold VI at h2;rw[h2,decide_eq_false]
   ·rfl
   ·rintro rfl;rw[jD]at h1;cases h1
  |false =>
   cases h2:VI n l with
   |true=>unfold VI at h2;rw[h2];rfl
   |false=>rw[Y1 h2 h1];simp
theorem YK(hk:k<a.files.length)(h:dQ a k=false):WW a a.files.length=false:=by
 cases hg:WW a a.files.length with
 |false=>rfl
 |true=>rw[Z0 hg hk]at h;cases h
def Y8(a:A)(k:Nat):List ByteArray:=(a.files.take k).map (WX a.aa)
theorem aaB(h:k<a.files.length):Y8 a (k+1)=Y8 a k++[WX a.aa (Nm a.files k)]:=by
 unfold Y8;rw[YL h,List.map_append];rfl
theorem aaC(a:A):Y8 a a.files.length=aY a:=by unfold Y8 aY;rw[List.take_length]
end Ar
theorem qk(h:w.ownsRow base 9 1 v L.length (L.map Value.string)):∃ad cap,v=.slice ad L.length cap/\L.length<=cap/\XU base w ad L:=by
 rcases h.2 with⟨h1,h2⟩|⟨g,cap,cur,h1,h2,h3,h4,h5,h6,h7⟩
 ·obtain rfl:L=[]:=lZ.1 h2;exact⟨none,0,h1,nl _,.inl rfl⟩
 ·refine⟨some ⟨g,0,none⟩,cap,h1,h4,.inr ⟨g,0,rfl,h2,(aG.1 h3).1,λi hi=>?_⟩⟩;have e:(cur.toList.take (L.length*1))[i]?=(L.map Value.string)[i]?:=by rw[h7]
  rw[Nat.mul_one,List.getElem?_take_of_lt hi]at e;simp only[World.cell?,h3,Nat.zero_add];simp only[Option.isSome_none,Bool.false_eq_true,if_false];rw[<-Array.getElem?_toList,e];simp[VA,hi]
theorem bE.sl{lo:Nat}{ad:Option Addr}(h:XU lo w ad L):bz w ad L:=by
 rcases h with h|⟨b,off,h1,_,h2⟩
 ·exact .inl h
 ·exact .inr ⟨b,off,h1,h2⟩
theorem ez.at{w:World}{ad:Option Addr}{fs:List Ar.F}(h:ez w ad fs){i:Nat}(hi:i<fs.length):∃b off,ad=some ⟨b,off,none⟩/\b<w.heap.size/\su w b (off+i*5) (Nm fs i):=by
 rcases h with rfl|⟨b,off,h1,h2⟩
 ·simp at hi
 ·exact⟨b,off,h1,h2.1,h2.2 i hi⟩
def jq(a:Ar.A)(w:World)(e:Ending)(w':World):Prop:=∃ad cap L,e=.returned (.tuple #[.slice ad (L:List ByteArray).length cap,.int .i64 (Vz a)])/\L.length<=cap/\XU w.heap.size w' ad L/\(Vz a=0->L=aY a)/\(Vz a≠0->L=[]/\ad=none/\cap=0)/\ae w w'
theorem E2(hb:ae w w')(hc:Vz a≠0):jq a w (.returned (.tuple #[.slice none 0 0,.int .i64 (Vz a)])) w' :=
 ⟨none,0,[],rfl,nl _,.inl rfl,λh=>absurd h hc,λ_=>⟨rfl,rfl,rfl⟩,hb⟩
theorem OB(ad af:Option Addr)(cd cf:Nat)(a:Ar.A)(w:World)(h:bo w ad af a)(hs:ao a)(hm:W6 a=true) :
 Calls prog 69 #[av ad cd af cf a] w λe w'=>jq a w e w':=by
 have hc:Vz a=2:=by unfold Vz;rw[ax hm]
 have hb:=λo=>(bR w.heap.size w).alloc (nl _) o
 have c1:=λw hx=>EE ad af cd cf a w hx hs
 rw[hm]at c1;have HX:=Za λo=>h.ds.below (hb o)
 have HE:Hid (∀w',ae w w'->jq a w (.returned (.tuple #[.slice none 0 0,.int .i64 2])) w'):=λw' h9=>by rw[<-hc];exact E2 h9 (by rw[hc];decide)
 have C1:=Za λo=>c1 _ (HX.out o)
 clear c1 h hs hc;unfold av at C1 |-
 clear HX hm;generalize a.aa.length=D at*;generalize a.files.length=F at*;go_enter func69,ntmps69
 go_wp2_with fail
 refine mo (C1.out _) λw1 G=>?_
 go_wp2_with fail
 go_ret2
 exact HE.out _ (ag (hb _) G)
theorem OC(ad af:Option Addr)(cd cf:Nat)(a:Ar.A)(w:World)(h:bo w ad af a)(hs:ao a)(hm:W6 a=false) :
 Calls prog 69 #[av ad cd af cf a] w λe w'=>jq a w e w':=by
 obtain⟨m1,m2,m3⟩:=Zj.1 hm;obtain⟨i0,hi,hz0,hz1,hz2⟩:=info_parts (P:=prog) (e:=9) (z:=.string ⟨#[]⟩) (size:=1) (bytes:=16) (by kernel_rfl);have HC:Hid (Vz a=if WW a a.files.length=true then 0 else 1):=by show _=_;unfold Vz;rw[hm];rfl
 have hb:=λo=>(bR w.heap.size w).alloc (nl _) o
 have c1:=λo=>EE ad af cd cf a (w.alloc o) (h.ds.below (hb o)) hs
 rw[hm]at c1
 have HB:Hid (∀w',ae w w'->WW a a.files.length=false->jq a w (.returned (.tuple #[.slice none 0 0,.int .i64 1])) w'):=λw' h9 hg=>by
  have hc:Vz a=1:=by rw[HC.out,hg];rfl
  rw[<-hc];exact E2 h9 (by rw[hc];decide)
 have HG:Hid (∀w' v base,w.heap.size<=base->ae w w'->WW a a.files.length=true->w'.ownsRow base 9 1 v a.files.length ((aY a).map Value.string)->jq a w (.returned (.tuple #[v,.int .i64 0])) w'):=λw' v base hbs h9 hg ho=>by
  have hc:Vz a=0:=by rw[HC.out,hg];rfl
  have hl:(aY a).length=a.files.length:=by unfold aY;rw[List.length_map]
  rw[<-hl]at ho;obtain⟨ad',cap',rfl,h4,h5⟩:=qk ho;refine⟨ad',cap',aY a,by rw[hc],h4,?_,λ_=>rfl,λh8=>absurd hc h8,h9⟩;rcases h5 with h5|⟨b,off,h6,h7,h8⟩
  ·exact .inl h5
  ·exact .inr ⟨b,off,h6,by omega,h8⟩
 have cy:=Za λw' (h9:ae w w') k (hk:k<a.files.length)=>(h.fs.below h9).at hk
 have HU:=Za λw' (h9:ae w w') k=>Ns ad af cd cf a _ w' (h.ds.below h9) hs (hs.bk k)
 have HN:=Za hs.nm
 have HZ:Hid (∀k,dR a.aa (Nm a.files k)=true->(lM a.aa (Nm a.files k)).size<=512/\lM a.aa (Nm a.files k)=WX a.aa (Nm a.files k)):=λk h9=>by
  have e:lM a.aa (Nm a.files k)=WX a.aa (Nm a.files k):=by unfold lM;rw[ax h9]
  rw[e];have h8:=(Bool.and_eq_true _ _ ▸ h9:_/\_).2;exact⟨Bk.cD (of_decide_eq_true h8).1,rfl⟩
 clear h hs hm HC m3;unfold av at c1 HU |-
 unfold fv at HU
 obtain⟨D,hD⟩:∃D,a.aa.length=D:=⟨_,rfl⟩
 obtain⟨N,hN⟩:∃N,a.files.length=N:=⟨_,rfl⟩
 rw[hD,hN]at c1 |-
 simp only[hD,hN]at HU cy HG HB;have cK:=Za hN;rw[hN]at m2;clear hN hD m1;have hN':(N:Int)<=12:=by omega
 go_enter func69,ntmps69
 go_wp2_with fail
 refine mo (c1 _) λw1 G=>?_
 clear c1;have hA:=λi=>(G.cell (p:=⟨w.heap.size,i,none⟩) (by simp)).trans (cN _ _ _ i)
 have E3:w.heap.size<w1.heap.size:=by have:=G.size;simp at this;omega
 have B1:=ag (hb (.cells #[.slice ad D cd,.slice af N cf] 35 (0,0))) G;have a0:w1.cell? ⟨w.heap.size,0,none⟩=some (.slice ad D cd):=hA 0;have a1:w1.cell? ⟨w.heap.size,1,none⟩=some (.slice af N cf):=hA 1;clear hA G;go_wp2_with fail
 go_loopw [4,5,15] (λv l i wr=>∃(k:Nat) (la:ByteArray),k<=N/\i=.int .i64 k/\l=.string la/\Hid (qj a k=la)/\Hid (WW a k=true)/\wr.ownsRow w1.heap.size 9 1 v k ((Y8 a k).map Value.string)/\ae w1 wr) (λ_ _ i _=>N-(intOf i).toNat)
 case atStart=>exact⟨0,⟨#[]⟩,by omega,rfl,rfl,rfl,rfl,⟨rfl,.inl ⟨rfl,rfl⟩⟩,bR _ _⟩
 case round =>
  obtain⟨k,la,hk2,rfl,rfl,OD,E4,hrow,B2⟩:=hrel;have a0':=(B2.cell (p:=⟨w.heap.size,0,none⟩) E3).trans a0;have a1':=(B2.cell (p:=⟨w.heap.size,1,none⟩) E3).trans a1;have B3:=ag B1 B2;have ql:w.heap.size+1<=wr.heap.size:=by have:=B2.size;omega
  have OE:w.heap.size<wr.heap.size:=ql;by_cases hlt:k<N
  ·have d1:=al (by omega:(k:Int)<(N:Int));have d1':=al (by omega:k<N);have hki:(k:Int)<(N:Int):=by omega
   obtain⟨b,off,rfl,hbl,hc⟩:=cy.out wr B3 k hlt;obtain⟨c0,c1,c2,c3,c4⟩:=hc;have c5:=λw=>oQ (Nm a.files k).name w (HN.out k)
   have hkl:Hid (k<a.files.length):=by show _<_;rw[cK.out];exact hlt
   have nS:Hid (∀x y z,bI (Nm a.files k).name=x->(decide (k=0)||VI (Nm a.files (k-1)).name (Nm a.files k).name)=y->dR a.aa (Nm a.files k)=z->dQ a k=(x&&y&&z)):=λx y z h1 h2 h3=>by unfold dQ;rw[h1,h2,h3]
   have c6:=λw' hb=>HU.out w' hb k
   have sF:=HZ.out k;have mA:=Za (aaB hkl.out)
   cases hnm:bI (Nm a.files k).name with
   |false =>
    have hg:Hid (WW a N=false):=by
     show _=_;rw[<-cK.out];refine YK hkl.out ?_;rw[nS.out false _ _ hnm rfl rfl];rfl
    rw[hnm]at c5;clear hnm nS c6 sF mA;generalize (Nm a.files k).name=f0 at*;generalize (Nm a.files k).dict=f1 at*;generalize (Nm a.files k).size=f2 at*;generalize (Nm a.files k).sum=f3 at*;generalize (Nm a.files k).blk=f4 at*;go_wp2_with fail
    refine mo (c5 _) ?_;rintro w2 rfl;go_wp2_with fail
    go_ret2
    exact HB.out _ (B3.alloc B3.size _) hg.out
   |true =>
    have hord:=OA hnm;rw[OD.out]at hord;rw[hnm]at c5
    cases E5:(Op.bytesLess (Nm a.files k).name.toList la.toList||((Nm a.files k).name.toList==la.toList)) with
    |true =>
     rw[E5]at hord
     have hg:Hid (WW a N=false):=by
      show _=_;rw[<-cK.out];refine YK hkl.out ?_;rw[nS.out true false _ hnm hord rfl];rfl
     clear hnm nS c6 sF hord mA;generalize (Nm a.files k).name=f0 at*;generalize (Nm a.files k).dict=f1 at*;generalize (Nm a.files k).size=f2 at*;generalize (Nm a.files k).sum=f3 at*;generalize (Nm a.files k).blk=f4 at*;go_wp2_with fail
     refine mo (c5 _) ?_;rintro w2 rfl;go_wp2_with fail
     go_ret2
     exact HB.out _ (B3.alloc B3.size _) hg.out
    |false =>
     rw[E5]at hord
     cases hof:dR a.aa (Nm a.files k) with
     |false =>
      have hg:Hid (WW a N=false):=by
       show _=_;rw[<-cK.out];refine YK hkl.out ?_;rw[nS.out true true false hnm hord hof];rfl
      rw[hof]at c6;clear hnm nS sF hord hof mA;generalize lM a.aa (Nm a.files k)=T at*;generalize (Nm a.files k).name=f0 at*;generalize (Nm a.files k).dict=f1 at*;generalize (Nm a.files k).size=f2 at*;generalize (Nm a.files k).sum=f3 at*;generalize (Nm a.files k).blk=f4 at*;have c7:=c6 _ (B3.alloc B3.size (.cells #[.string f0,.int .i64 f1,.int .i64 f2,.int .i64 f3,.string f4] 73 (0,0)));clear c6;go_wp2_with fail
      refine mo (c5 _) ?_;rintro w2 rfl;go_wp2_with fail
      refine mo c7 λw3 G=>?_
      go_wp2_with fail
      go_ret2
      exact HB.out _ (ag (B3.alloc B3.size _) G) hg.out
     |true =>
      obtain⟨zA,E6⟩:=sF hof;have hok:Hid (WW a (k+1)=true):=by show _=_;rw[WW,E4.out,nS.out true true true hnm hord hof];rfl
      have hla:Hid (qj a (k+1)=(Nm a.files k).name):=by show _=_;unfold qj;rw[ab (by omega)];rfl
      rw[<-E6]at mA;rw[hof]at c6;clear hnm nS sF hord hof E6;generalize lM a.aa (Nm a.files k)=T at*;generalize (Nm a.files k).name=f0 at*;generalize (Nm a.files k).dict=f1 at*;generalize (Nm a.files k).size=f2 at*;generalize (Nm a.files k).sum=f3 at*;generalize (Nm a.files k).blk=f4 at*;have c7:=c6 _ (B3.alloc B3.size (.cells #[.string f0,.int .i64 f1,.int .i64 f2,.int .i64 f3,.string f4] 73 (0,0)));clear c6;go_wp2_with fail
      refine mo (c5 _) ?_;rintro w2 rfl;go_wp2_with fail
      refine mo c7 λw3 G=>?_
      have hrow3:=Zz (hrow.alloc (.cells #[.string f0,.int .i64 f1,.int .i64 f2,.int .i64 f3,.string f4] 73 (0,0))) G;have B4:=ag (B2.alloc B2.size (.cells #[.string f0,.int .i64 f1,.int .i64 f2,.int .i64 f3,.string f4] 73 (0,0))) G;have hz3:=B4.size;clear G B2 B3 hrow c5 c7 c0 c1 c2 c3 c4 hbl
      go_wp2_with (first
       |(at_builtin;refine wpList_append_own _ rfl _ _ 32 rfl w1.heap.size 9 i0 (.string ⟨#[]⟩) 1 16 je hi hz0 hz1 hz2 rfl (by decide) _ _ _ rfl (hrow3.alloc _) ⟨w3.heap.size,0,none⟩ 1 1 [.string T] rfl rfl (cell_one_new _ _ _) (by simp[Value.oneCell']) (by unfold maxLen at*;omega) (by omega) (by simp;omega) ?_;intro v' w4 hown' hg4 E7;go_frame)
       |fail)
      have B5:=(B4.alloc B4.size (.cells #[.string T] 9 (0,0))).grown hg4 (by simp;omega) (λj hj=>(hrow3.lt j hj).1);go_roundw
      case rel=>exact⟨k+1,f0,by omega,by go_num,rfl,hla,hok,by rw[mA.out,List.map_append];exact hown',B5⟩
      case measure=>simp[intOf];omega
  ·obtain rfl:k=N:=by omega
   have d1:decide ((k:Int)<(k:Int))=false:=by simp
   have sG:Hid (Y8 a k=aY a):=by show _=_;rw[<-cK.out];exact aaC a
   rw[sG.out]at hrow;have hfin:=HG.out wr _ w1.heap.size B1.size B3 E4.out hrow;clear hrow;go_wp2_with fail
   go_ret2
   exact hfin
theorem oW(ad af:Option Addr)(cd cf:Nat)(a:Ar.A)(w:World)(h:bo w ad af a)(hs:ao a) :
 Calls prog 69 #[av ad cd af cf a] w λe w'=>jq a w e w':=by
 cases hm:W6 a with
 |true=>exact OB ad af cd cf a w h hs hm
 |false=>exact OC ad af cd cf a w h hs hm
theorem OF(f:Ar.F)(name:ByteArray)(w:World) :
 CB 95 #[fv f,.string name] w (.int .i64 (Lib.compareBytes f.name.data.toList name.data.toList)):=by
 have c1:=λw=>Tryz.strings_Compare f.name name w
 unfold fv;generalize Lib.compareBytes f.name.data.toList name.data.toList=r at*;generalize f.name=f0 at*;go_enter func95,ntmps95
 go_wp2_with fail
 refine mo (c1 _) ?_;rintro w1 rfl;go_wp2_with fail
 go_ret
 exact⟨rfl,(bR _ _).alloc (nl _) _⟩
theorem zB:∀(x y:List UInt8),(Lib.compareBytes x y=0)↔x=y
 |[],[]=>by simp[Lib.compareBytes]
 |_ :: _,[]=>by simp[Lib.compareBytes]
 |[],_ :: _=>by simp[Lib.compareBytes]
 |a :: x,b :: y=>by
  rw[Lib.compareBytes];have ih:=zB x y;by_cases h1:a<b
  ·have h3:a≠b:=by rintro rfl;exact absurd h1 (UInt8.lt_irrefl _)
   simp[h1,h3]
  ·by_cases h2:b<a
   ·have h3:a≠b:=by rintro rfl;exact h1 h2
    simp[h1,h2,h3]
   ·have h3:=UInt8.le_antisymm (UInt8.not_lt.1 h2) (UInt8.not_lt.1 h1);subst h3;simpa[h1]using ih
theorem OG(a b:ByteArray):decide (Lib.compareBytes a.data.toList b.data.toList=0)=decide (a=b):=by
 by_cases h:a=b
 ·subst h;rw[decide_eq_true ((zB _ _).2 rfl),decide_eq_true rfl]
 ·rw[decide_eq_false h,decide_eq_false];intro e;apply h;apply Tr.uk;rw[ByteArray.toList_eq,ByteArray.toList_eq];exact(zB _ _).1 e
theorem OH(b off cap:Nat)(fs:List Ar.F)(name:ByteArray)(w:World)(h:kQ w b off fs)(hn:fs.length<=100000)(hs:gq fs) :
 CB 94 #[.slice (some ⟨b,off,none⟩) fs.length cap,.string name,.func (.func 95) #[] #[]] w (.tuple #[.int .i64 (VG fs name:Nat),.bool (ZI fs name)]):=by
 have HF:=Za λw' (h9:ae w w') k (hk:k<fs.length)=>(h.below h9).2 k hk
 have HC:Hid (∀k w,CB 95 #[fv (Nm fs k),.string name] w (.int .i64 (Lib.compareBytes (Nm fs k).name.data.toList name.data.toList))):=λk w=>OF _ name w
 have HP:=Za λi (h1:i<=fs.length) (h2:(∀k,k<i->VI (Nm fs k).name name=true)) (h3:(i<fs.length->VI (Nm fs i).name name=false))=>EG h1 h2 h3
 have HT:Hid (ZI fs name=decide (VG fs name<fs.length/\(Nm fs (VG fs name)).name=name)):=rfl;have E8:Hid (∀i j,i<j->j<fs.length->VI (Nm fs i).name (Nm fs j).name=true):=hs;clear h hs
 obtain⟨p,hp⟩:∃p,VG fs name=p:=⟨_,rfl⟩
 obtain⟨r,hr⟩:∃r,ZI fs name=r:=⟨_,rfl⟩
 rw[hp,hr];rw[hp,hr]at HT;rw[hp]at HP;clear hp hr;unfold fv at HC;generalize hN:fs.length=N at*;have hNi:(N:Int)<=100000:=by omega
 clear hN;go_enter func94,ntmps94
 go_wp2_with fail
 go_loopw [9,10] (λi j wr=>∃I J:Nat,I<=J/\J<=N/\i=.int .i64 I/\j=.int .i64 J/\Hid (∀k,k<I->VI (Nm fs k).name name=true)/\Hid (J<N->VI (Nm fs J).name name=false)/\ae w wr) (λi j _=>(intOf j).toNat-(intOf i).toNat)
 case atStart=>exact⟨0,N,by omega,by omega,rfl,rfl,λk hk=>by omega,λh9=>by omega,bR _ _⟩
 case round =>
  obtain⟨I,J,Vg,OI,rfl,rfl,H1,H2,B1⟩:=hrel;by_cases hlt:I<J
  ·have d1:decide ((I:Int)<(J:Int))=true:=al (by omega);have hlt':(I:Int)<(J:Int):=by omega
   obtain⟨M,hM⟩:∃M,(I+J)/2=M:=⟨_,rfl⟩
   have hM1:I<=M/\M<J:=by omega
   obtain⟨c0,c1,c2,c3,c4⟩:=HF.out wr B1 M (by omega);have c5:=HC.out M;have Vh:(M:Int)<=100000:=by omega
   have Vi:(M:Int)<(N:Int):=by omega
   have zC:M<N:=by omega
   have hbl:=BJ (Nm fs M).name name
   obtain⟨x,hx⟩:∃x,Lib.compareBytes (Nm fs M).name.data.toList name.data.toList=x:=⟨_,rfl⟩
   rw[hx]at c5 hbl;clear hx
   cases hq:VI (Nm fs M).name name with
   |true =>
    have K1:Hid (∀k,k<M+1->VI (Nm fs k).name name=true):=λk hk=>by
     by_cases e:k=M
     ·subst e;exact hq
     ·exact Yx (E8.out k M (by omega) zC) hq
    rw[hq]at hbl;have hx0:=of_decide_eq_true hbl;clear hq;generalize (Nm fs M).name=f0 at*;generalize (Nm fs M).dict=f1 at*;generalize (Nm fs M).size=f2 at*;generalize (Nm fs M).sum=f3 at*;generalize (Nm fs M).blk=f4 at*;go_wp2_with fail
    refine mo (c5 _) λw1 G=>?_
    have B2:=ag B1 G;go_wp2_with fail
    go_roundw
    case rel=>exact⟨M+1,J,by omega,by omega,by go_num,rfl,K1,H2,B2⟩
    case measure=>simp[intOf];omega
   |false =>
    have K1:=Za λ(_:M<N)=>hq
    rw[hq]at hbl;have hx0:=of_decide_eq_false hbl;clear hq;generalize hf0:(Nm fs M).name=f0 at c0 c5 hbl;clear hf0;generalize (Nm fs M).dict=f1 at*;generalize (Nm fs M).size=f2 at*;generalize (Nm fs M).sum=f3 at*;generalize (Nm fs M).blk=f4 at*;go_wp2_with fail
    refine mo (c5 _) λw1 G=>?_
    have B2:=ag B1 G;go_wp2_with fail
    go_roundw
    case rel=>exact⟨I,M,by omega,by omega,rfl,by go_num,H1,K1,B2⟩
    case measure=>simp[intOf];omega
  ·obtain rfl:I=J:=by omega
   have d1:decide ((I:Int)<(I:Int))=false:=by simp
   have hp:=Za (HP.out I OI H1.out H2.out);rw[hp.out]at HT;by_cases zD:I<N
   ·have d2:decide ((I:Int)<(N:Int))=true:=al (by omega);have OJ:(I:Int)<(N:Int):=by omega
    obtain⟨c0,c1,c2,c3,c4⟩:=HF.out wr B1 I zD;have c5:=HC.out I;have hbl:=OG (Nm fs I).name name
    obtain⟨x,hx⟩:∃x,Lib.compareBytes (Nm fs I).name.data.toList name.data.toList=x:=⟨_,rfl⟩
    rw[hx]at c5 hbl
    have hr:Hid (r=decide (x=0)):=by
     show _=_;rw[hbl,HT.out];by_cases e:(Nm fs I).name=name
     ·rw[decide_eq_true e,decide_eq_true ⟨zD,e⟩]
     ·rw[decide_eq_false e,decide_eq_false (λh9=>e h9.2)]
    clear hx hbl H1 H2 HT HP E8;generalize (Nm fs I).name=f0 at*;generalize (Nm fs I).dict=f1 at*;generalize (Nm fs I).size=f2 at*;generalize (Nm fs I).sum=f3 at*;generalize (Nm fs I).blk=f4 at*;by_cases hx0:x=0
    ·subst hx0;go_wp2_with fail
     refine mo (c5 _) λw1 G=>?_
     have B2:=ag B1 G;go_wp2_with fail
     go_ret2
     exact⟨by rw[hp.out,hr.out];rfl,B2⟩
    ·have e1:(x==0)=false:=by simpa using hx0
     have e2:=dF hx0;go_wp2_with fail
     refine mo (c5 _) λw1 G=>?_
     have B2:=ag B1 G;go_wp2_with fail
     go_ret2
     exact⟨by rw[hp.out,hr.out,e2];rfl,B2⟩
   ·have d2:decide ((I:Int)<(N:Int))=false:=dF (by omega);have OJ:¬(I:Int)<(N:Int):=by omega
    have hr:Hid (r=false):=by show _=_;rw[HT.out];exact dF (λh9=>zD h9.1)
    go_wp2_with fail
    go_ret2
    exact⟨by rw[hp.out,hr.out];rfl,B1⟩
theorem OK(ad:Option Addr)(cap:Nat)(name:ByteArray)(fv:Value)(w:World) :
 CB 94 #[.slice ad 0 cap,.string name,fv] w (.tuple #[.int .i64 0,.bool false]):=by
 go_enter func94,ntmps94
 go_wp2_with fail
 go_loopw [9,10] (λi j wr=>i=.int .i64 0/\j=.int .i64 0/\wr=w) (λ_ _ _=>0)
 case atStart=>exact⟨rfl,rfl,rfl⟩
 case round =>
  obtain⟨rfl,rfl,rfl⟩:=hrel;go_wp2_with fail
  go_ret2
  exact⟨rfl,bR _ _⟩
theorem OL(ad:Option Addr)(cap:Nat)(fs:List Ar.F)(name:ByteArray)(w:World)(h:ez w ad fs)(hn:fs.length<=100000)(hs:gq fs) :
 CB 94 #[.slice ad fs.length cap,.string name,.func (.func 95) #[] #[]] w (.tuple #[.int .i64 (VG fs name:Nat),.bool (ZI fs name)]):=by
 rcases h with rfl|⟨b,off,rfl,h2⟩
 ·exact OK ad cap name _ w
 ·exact OH b off cap fs name w h2 hn hs
theorem oX(ad af:Option Addr)(cd cf:Nat)(a:Ar.A)(name:ByteArray)(w:World)(h:ez w af a.files)(hn:a.files.length<=100000)(hs:gq a.files) :
 CB 64 #[av ad cd af cf a,.string name] w (.tuple #[.int .i64 (VG a.files name:Nat),.bool (ZI a.files name)]):=by
 have hb:=λo=>(bR w.heap.size w).alloc (nl _) o
 have c1:=λo=>OL af cf a.files name (w.alloc o) (h.below (hb o)) hn hs
 unfold av;clear h hn hs;generalize VG a.files name=p at*;generalize ZI a.files name=r at*;generalize a.aa.length=D at*;generalize a.files.length=F at*;go_enter func64,ntmps64
 go_wp2_with fail
 refine mo (c1 _) λw1 G=>?_
 go_wp2_with fail
 go_ret2
 exact⟨rfl,ag (hb _) G⟩
theorem Zm(ad af:Option Addr)(cd cf:Nat)(a:Ar.A)(w:World)(h:bo w ad af a)(hs:ao a) :
 CB 61 #[av ad cd af cf a] w (.int .i64 (Vz a)):=by
 have hb:=λo=>(bR w.heap.size w).alloc (nl _) o
 have c1:=λo=>oW ad af cd cf a (w.alloc o) (h.below (hb o)) hs
 unfold jq at c1;unfold av at c1 |-
 generalize Vz a=E at*;generalize aY a=TX at*;generalize a.aa.length=D at*;generalize a.files.length=F at*;clear h hs;go_enter func61,ntmps61
 go_wp2_with fail
 refine(c1 _).mono ?_;rintro e w1 ⟨ad',cap',L,rfl,_,_,_,_,G⟩;clear c1;go_wp2_with fail
 go_ret
 exact⟨rfl,ag (hb _) G⟩
theorem OM(ad af:Option Addr)(cd cf:Nat)(a:Ar.A)(name:ByteArray)(w:World)(h:bo w ad af a)(hs:ao a)(hc:Vz a≠0) :
 CB 37 #[av ad cd af cf a,.string name] w (.tuple #[.string ⟨#[]⟩,.int .i64 (Vz a)]):=by
 have hb:=λo=>(bR w.heap.size w).alloc (nl _) o
 have c1:=λo=>oW ad af cd cf a (w.alloc o) (h.below (hb o)) hs
 unfold jq at c1;unfold av at c1 |-
 generalize Vz a=E at*;generalize aY a=TX at*;generalize a.aa.length=D at*;generalize a.files.length=F at*;have e1:(E != 0)=true:=by simpa using hc
 have e2:(E==0)=false:=by simpa using hc
 clear h hs;go_enter func37,ntmps37
 go_wp2_with fail
 refine(c1 _).mono ?_;rintro e w1 ⟨ad',cap',L,rfl,_,_,_,_,G⟩;clear c1;go_wp2_with fail
 go_ret2
 exact⟨rfl,ag (hb _) G⟩
theorem ON(ad af:Option Addr)(cd cf:Nat)(a:Ar.A)(name:ByteArray)(w:World)(h:bo w ad af a)(hs:ao a)(hc:Vz a=0) :
 CB 37 #[av ad cd af cf a,.string name] w (.tuple #[.string (bD a name),.int .i64 (VE a name)]):=by
 have hb:=λo=>(bR w.heap.size w).alloc (nl _) o
 have c1:=λo=>oW ad af cd cf a (w.alloc o) (h.below (hb o)) hs
 have hsr:=Xk hc;obtain⟨m1,m2,m3⟩:=Zj.1 (VV.1 hc).1;have C2:=Za λw' (h9:ae w w')=>oX ad af cd cf a name w' (h.fs.below h9) (by omega) hsr
 have HE:Hid (VE a name=if ZI a.files name=true then 0 else 5):=by show _=_;unfold VE;rw[ab (λh9=>h9 hc)]
 have HT:Hid (bD a name=if VE a name=0 then WX a.aa (Nm a.files (VG a.files name)) else⟨#[]⟩):=rfl
 have HX:Hid (ZI a.files name=true->VG a.files name<(aY a).length/\VA (aY a) (VG a.files name)=WX a.aa (Nm a.files (VG a.files name))):=λht=>by
  have h9:=(ZH ht).1;unfold aY;exact⟨by rw[List.length_map];exact h9,by simp[VA,Nm,h9]⟩
 unfold jq at c1;rw[hc]at c1;have hpl:=Yg a.files name;have OO:(VG a.files name:Int)<=12:=by omega
 clear h hs hsr hc m3;unfold av at c1 C2 |-
 generalize aY a=TX at*;generalize WX a.aa (Nm a.files (VG a.files name))=T at*;generalize VG a.files name=p at*;generalize a.aa.length=D at*;generalize a.files.length=F at*
 cases ht:ZI a.files name with
 |false =>
  rw[ht]at HE C2;have e5:VE a name=5:=HE.out;have eT:bD a name=⟨#[]⟩:=by rw[HT.out,e5];rfl
  rw[e5,eT];clear HE HT HX ht e5 eT;go_enter func37,ntmps37
  go_wp2_with fail
  refine(c1 _).mono ?_;rintro e w1 ⟨ad',cap',L,rfl,_,_,_,_,G⟩;clear c1;have a0:=(G.cell (p:=⟨w.heap.size,0,none⟩) (by simp)).trans (cN _ _ _ 0);have a1:=(G.cell (p:=⟨w.heap.size,1,none⟩) (by simp)).trans (cN _ _ _ 1);simp at a0 a1;have B1:=ag (hb _) G;clear G;go_wp2_with fail
  refine mo (C2.out _ B1) λw2 G=>?_
  go_wp2_with fail
  go_ret2
  exact⟨rfl,ag B1 G⟩
 |true =>
  rw[ht]at HE C2;obtain⟨hpx,hxx⟩:=HX.out ht;have e5:VE a name=0:=HE.out;have eT:bD a name=T:=by rw[HT.out,e5];rfl
  rw[e5,eT];have mB:=Za hxx;clear HE HT HX ht e5 eT hxx;go_enter func37,ntmps37
  go_wp2_with fail
  refine(c1 _).mono ?_;rintro e w1 ⟨ad',cap',L,rfl,hL,de,hLx,_,G⟩;clear c1;have nU:=hLx (by trivial);rw[<-nU]at hpx mB;clear nU;have a0:=(G.cell (p:=⟨w.heap.size,0,none⟩) (by simp)).trans (cN _ _ _ 0);have a1:=(G.cell (p:=⟨w.heap.size,1,none⟩) (by simp)).trans (cN _ _ _ 1);simp at a0 a1;have B1:=ag (hb _) G;obtain⟨b,off,rfl,hbl,hcell⟩:=(bE.sl de).at hpx;rw[mB.out]at hcell;clear G de hLx;go_wp2_with fail
  refine mo (C2.out _ B1) λw2 G=>?_
  have hcell2:=(G.cell (p:=⟨b,off+p,none⟩) hbl).trans hcell;have hpi:(p:Int)<(L.length:Int):=by omega
  go_wp2_with fail
  go_ret2
  exact⟨rfl,ag B1 G⟩
theorem Fe(ad af:Option Addr)(cd cf:Nat)(a:Ar.A)(name:ByteArray)(w:World)(h:bo w ad af a)(hs:ao a) :
 CB 37 #[av ad cd af cf a,.string name] w (.tuple #[.string (bD a name),.int .i64 (VE a name)]):=by
 by_cases hc:Vz a=0
 ·exact ON ad af cd cf a name w h hs hc
 ·have e:VE a name=Vz a:=by unfold VE;rw[ax hc]
  have e2:bD a name=⟨#[]⟩:=by unfold bD;rw[e,ab hc]
  rw[e,e2];exact OM ad af cd cf a name w h hs hc
namespace Ar
theorem aaD{n:Int}(hE:VE a name=0)(h:0<=i/\0<=n/\i+n<=((bD a name).size:Int)):WO a name i n=0/\W7 a name i n=(bD a name).extract i.toNat (i.toNat+n.toNat):=by
 have e:WO a name i n=0:=by unfold WO;rw[ab (λh9=>h9 hE),ax h]
 exact⟨e,by unfold W7;rw[ax e]⟩
theorem Fg{n:Int}(hE:VE a name=0)(h:¬(0<=i/\0<=n/\i+n<=((bD a name).size:Int))):WO a name i n=3/\W7 a name i n=⟨#[]⟩:=by
 have e:WO a name i n=3:=by unfold WO;rw[ab (λh9=>h9 hE),ab h]
 exact⟨e,by unfold W7;rw[e];rfl⟩
theorem Fh{n:Int}(hE:VE a name≠0):WO a name i n=VE a name/\W7 a name i n=⟨#[]⟩:=by
 have e:WO a name i n=VE a name:=by unfold WO;rw[ax hE]
 exact⟨e,by unfold W7;rw[e,ab hE]⟩
end Ar
theorem OP(ad af:Option Addr)(cd cf:Nat)(a:Ar.A)(name:ByteArray)(i n:Int)(w:World)(h:bo w ad af a)(hs:ao a)(hi:-9223372036854775808<=i/\i<=9223372036854775807)(hn:-9223372036854775808<=n/\n<=9223372036854775807) :
 CB 38 #[av ad cd af cf a,.string name,.int .i64 i,.int .i64 n] w (.tuple #[.string (W7 a name i n),.int .i64 (WO a name i n)]):=by
 have hb:=λo=>(bR w.heap.size w).alloc (nl _) o
 have c1:=λo=>Fe ad af cd cf a name (w.alloc o) (h.below (hb o)) hs
 have hT:VE a name=0->(bD a name).size<=512:=λh9=>by
  obtain⟨h1,h2⟩:=zq h9;unfold bD;rw[ax h9];have h3:=(ZH h2).1;have h4:=Y9 (Z0 (VV.1 h1).2 h3);have h5:=(Bool.and_eq_true _ _ ▸ h4.2.2:_/\_).2;exact Bk.cD (of_decide_eq_true h5).1
 have R1:=λhE h=>aaD (a:=a) (name:=name) (i:=i) (n:=n) hE h
 have R2:=λhE h=>Fg (a:=a) (name:=name) (i:=i) (n:=n) hE h
 have R3:=λhE=>Fh (a:=a) (name:=name) (i:=i) (n:=n) hE
 generalize WO a name i n=RE at*;generalize W7 a name i n=RT at*;unfold av at c1 |-
 generalize VE a name=E at*;generalize bD a name=T at*;generalize a.aa.length=D at*;generalize a.files.length=F at*;clear h hs;by_cases hE:E=0
 ·subst hE;have zA:=hT rfl;by_cases h1:i<0
  ·have d1:=al h1;obtain⟨rfl,rfl⟩:=R2 rfl (by omega);go_enter func38,ntmps38
   go_wp2_with fail
   refine mo (c1 _) λw1 G=>?_
   go_wp2_with fail
   go_ret2
   exact⟨rfl,ag (hb _) G⟩
  ·have d1:=dF h1;by_cases h2:n<0
   ·have d2:=al h2;obtain⟨rfl,rfl⟩:=R2 rfl (by omega);go_enter func38,ntmps38
    go_wp2_with fail
    refine mo (c1 _) λw1 G=>?_
    go_wp2_with fail
    go_ret2
    exact⟨rfl,ag (hb _) G⟩
   ·have d2:=dF h2;have hw:IntKind.i64.wrap ((T.size:Int)-i)=(T.size:Int)-i:=IntWalk.i64_in _ ⟨by omega,by omega⟩;by_cases h3:(T.size:Int)-i<n
    ·have d3:=al h3;obtain⟨rfl,rfl⟩:=R2 rfl (by omega);go_enter func38,ntmps38
     go_wp2_with fail
     refine mo (c1 _) λw1 G=>?_
     go_wp2_with fail
     go_ret2
     exact⟨rfl,ag (hb _) G⟩
    ·have d3:=dF h3;obtain⟨rfl,rfl⟩:=R1 rfl (by omega);clear R1 R2 R3
     obtain⟨I,rfl⟩:∃I:Nat,i=(I:Int):=⟨i.toNat,by omega⟩
     obtain⟨N,rfl⟩:∃N:Nat,n=(N:Int):=⟨n.toNat,by omega⟩
     rw[Int.toNat_natCast,Int.toNat_natCast];have h4:(I:Int)+(N:Int)<=(T.size:Int):=by omega
     have h5:(I:Int)<=(I:Int)+(N:Int):=by omega
     have h6:(T.size:Int)<=512:=by omega
     go_enter func38,ntmps38
     go_wp2_with fail
     refine mo (c1 _) λw1 G=>?_
     go_wp2_with fail
     go_ret2
     exact⟨rfl,ag (hb _) G⟩
 ·obtain⟨sI,rfl⟩:=R3 hE;rw[sI];clear sI R1 R2 R3;have e1:(E != 0)=true:=by simpa using hE
  have e2:(E==0)=false:=by simpa using hE
  go_enter func38,ntmps38
  go_wp2_with fail
  refine mo (c1 _) λw1 G=>?_
  go_wp2_with fail
  go_ret2
  exact⟨rfl,ag (hb _) G⟩
theorem Zd{a:Addr}(h:w.cell? a=some v):w.setCell a v=w:=by
 have hh:(w.setCell a v).heap=w.heap:=by
  unfold World.setCell;simp only;apply Array.ext_getElem?;intro i;rw[Array.getElem?_modify];by_cases e:a.block=i
  ·subst e;rw[ax rfl];unfold World.cell? at h
   cases hb:w.heap[a.block]? with
   |none=>rfl
   |some o =>
    rw[hb]at h
    cases o with
    |cells c elem fr =>
     simp only[Option.map_some]
     congr 2
     simp only at h;split at h
     ·cases h
     ·rename_i hs
      rw[ab hs];obtain⟨hlt,hv⟩:=aG.1 h;apply Array.ext_getElem?;intro j;rw[Array.getElem?_setIfInBounds];by_cases e2:a.off=j
      ·subst e2;simp[hlt,hv]
      ·simp[e2]
    |_=>cases h
  ·rw[ab e]
 have e:w.setCell a v={ w with heap:=(w.setCell a v).heap }:=rfl;rw[e,hh]
theorem Ze(w:World)(a:Addr)(v:Value):w.grownBy (w.setCell a v) (some a.block):=by
 refine⟨rfl,rfl,rfl,by simp[World.setCell],λk hk hne=>?_⟩;have:a.block≠k:=λe=>hne (by rw[e])
 simp[World.setCell,Array.getElem?_modify,this]
structure jS(w0 wr:World)(B base:Nat)(v1 v2:Value)(n1 n2:Nat)(xs1 xs2:List Value):Prop where
 c0:wr.cell? ⟨B,0,none⟩=some v1
 c1:wr.cell? ⟨B,1,none⟩=some v2
 f0:wr.frozen? ⟨B,0,none⟩=false
 f1:wr.frozen? ⟨B,1,none⟩=false
 o1:wr.ownsRow base 9 1 v1 n1 xs1
 o2:wr.ownsRow base 73 5 v2 n2 xs2
 ne:∀j,v1.ownBlock=some j->v2.ownBlock≠some j
 hB:B<base
 hb:base<=wr.heap.size
 bel:Below B w0 wr
theorem ib{size:Nat}{xs:List Value}(h:w.ownsRow base e size v n xs){b:Nat}(hb:b<base):some b≠v.ownBlock:=λe1=>by have:=(h.lt b e1.symm).1;omega
theorem jS.below{B:Nat}(h:jS w0 wr B base v1 v2 n1 n2 xs1 xs2)(hb:ae wr w'):jS w0 w' B base v1 v2 n1 n2 xs1 xs2:=by
 have hB:=nT h.hB h.hb
 exact⟨(hb.cell (p:=⟨B,0,none⟩) hB).trans h.c0,(hb.cell (p:=⟨B,1,none⟩) hB).trans h.c1,(hb.frozen (p:=⟨B,0,none⟩) hB).trans h.f0,(hb.frozen (p:=⟨B,1,none⟩) hB).trans h.f1,
  Zz h.o1 hb,Zz h.o2 hb,h.ne,h.hB,nt h.hb hb.size,h.bel.trans (hb.mono (nL hB))⟩
theorem Zg(hg:w.grownBy w' row){b o:Nat}{v:Value}(h:w.cell? ⟨b,o,none⟩=some v)(hne:some b≠row):w'.cell? ⟨b,o,none⟩=some v:=hg.cell h hne
theorem Zv(hg:w.grownBy w' row){b o:Nat}(hb:b<w.heap.size)(h:w.frozen? ⟨b,o,none⟩=false)(hne:some b≠row):w'.frozen? ⟨b,o,none⟩=false:=(hg.frozen_far ⟨b,o,none⟩ hb hne).trans h
theorem jS.gL{w2:World}{B g:Nat}(h:jS w0 wr B base v1 v2 n1 n2 xs1 xs2)(hg:(wr.alloc o).grownBy w2 v1.ownBlock)
 (ho:w2.ownsRow base 9 1 (.slice (some ⟨g,0,none⟩) m cap) m ys) (hl:v1.ownBlock=some g\/g=(wr.alloc o).heap.size) :
 (w2.cell? ⟨B,0,none⟩=some v1/\w2.frozen? ⟨B,0,none⟩=false)/\jS w0 (w2.setCell ⟨B,0,none⟩ (.slice (some ⟨g,0,none⟩) m cap)) B base (.slice (some ⟨g,0,none⟩) m cap) v2 m n2 ys xs2:=by
 have hB:=nT h.hB h.hb;have hBa:B<(wr.alloc o).heap.size:=by simp;omega
 have ha:=h.below ((bR _ _).alloc (nl _) o);have n0:=ib h.o1 h.hB;have k0:=Zg hg ha.c0 n0;have k1:=Zg hg ha.c1 n0;have q0:=Zv hg hBa ha.f0 n0;have q1:=Zv hg hBa ha.f1 n0;have hgb:=(ho.lt g rfl).1;have hsg:=Ze w2 ⟨B,0,none⟩ (.slice (some ⟨g,0,none⟩) m cap);have hz:=hg.size;refine⟨⟨k0,q0⟩,cS _ _ _ k0,?_,by rw[World.frozen?_setCell];exact q0,by rw[World.frozen?_setCell];exact q1,ho.kept hsg (.inr (by simp[Value.ownBlock];have:=h.hB;omega)),?_,?_,h.hB,?_,?_⟩
 ·exact(cO w2 _ _ _ (by intro e;have:=congrArg Addr.off e;simp at this)).trans k1
 ·refine(ha.o2.kept hg ?_).kept hsg (.inr (ib ha.o2 h.hB).symm)
  cases hv:v2.ownBlock with
  |none=>exact .inl rfl
  |some j=>exact .inr (λe=>h.ne j e.symm hv)
 ·intro j hj e;simp[Value.ownBlock]at hj;subst hj;rcases hl with hl|hl
  ·exact h.ne g hl e
  ·have:=(h.o2.lt g e).2;simp at hl;omega
 ·show _<=(w2.setCell _ _).heap.size;have:=h.hb;simp[World.setCell]at*;omega
 ·exact((h.bel.alloc (nL hB) o).grown hg (by simp;omega) (λj hj=>by have:=(h.o1.lt j hj).1;have:=h.hB;omega)).setCell (nl _) _
theorem jS.br{w2:World}{B g:Nat}(h:jS w0 wr B base v1 v2 n1 n2 xs1 xs2)(hg:(wr.alloc o).grownBy w2 v2.ownBlock)
 (ho:w2.ownsRow base 73 5 (.slice (some ⟨g,0,none⟩) m cap) m ys) (hl:v2.ownBlock=some g\/g=(wr.alloc o).heap.size) :
 (w2.cell? ⟨B,1,none⟩=some v2/\w2.frozen? ⟨B,1,none⟩=false)/\jS w0 (w2.setCell ⟨B,1,none⟩ (.slice (some ⟨g,0,none⟩) m cap)) B base v1 (.slice (some ⟨g,0,none⟩) m cap) n1 m xs1 ys:=by
 have hB:=nT h.hB h.hb;have hBa:B<(wr.alloc o).heap.size:=by simp;omega
 have ha:=h.below ((bR _ _).alloc (nl _) o);have n0:=ib h.o2 h.hB;have k0:=Zg hg ha.c0 n0;have k1:=Zg hg ha.c1 n0;have q0:=Zv hg hBa ha.f0 n0;have q1:=Zv hg hBa ha.f1 n0;have hgb:=(ho.lt g rfl).1;have hsg:=Ze w2 ⟨B,1,none⟩ (.slice (some ⟨g,0,none⟩) m cap);have hz:=hg.size;refine⟨⟨k1,q1⟩,?_,cS _ _ _ k1,by rw[World.frozen?_setCell];exact q0,by rw[World.frozen?_setCell];exact q1,?_,ho.kept hsg (.inr (by simp[Value.ownBlock];have:=h.hB;omega)),?_,h.hB,?_,?_⟩
 ·exact(cO w2 _ _ _ (by intro e;have:=congrArg Addr.off e;simp at this)).trans k0
 ·refine(ha.o1.kept hg ?_).kept hsg (.inr (ib ha.o1 h.hB).symm)
  cases hv:v1.ownBlock with
  |none=>exact .inl rfl
  |some j=>exact .inr (λe=>h.ne j hv e.symm)
 ·intro j hj e;simp[Value.ownBlock]at e;subst e;rcases hl with hl|hl
  ·exact h.ne g hj hl
  ·have:=(h.o1.lt g hj).2;simp at hl;omega
 ·show _<=(w2.setCell _ _).heap.size;have:=h.hb;simp[World.setCell]at*;omega
 ·exact((h.bel.alloc (nL hB) o).grown hg (by simp;omega) (λj hj=>by have:=(h.o2.lt j hj).1;have:=h.hB;omega)).setCell (nl _) _
end Go.Proofs.YtbjbjbpgmojcbacGreatDoor
