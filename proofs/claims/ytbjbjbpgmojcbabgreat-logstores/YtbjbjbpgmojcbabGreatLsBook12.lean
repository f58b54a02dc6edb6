/- A part of the proof: what it leans on. -/
import Derived.WalkLawsBesides
import Derived.Deep.RegionLaw
import Derived.Lib.AppendZerosOnto
import Derived.Lib.Overlaps
import Derived.Lib.SliceRun
import Derived.Shelf.Spec.SlicesInsert
import Derived.Laws.CopyRow
import Derived.Laws.NewBlocks
import Derived.Test.YtbjbjbpgmojcbabGreatLsBook01
import Derived.Test.YtbjbjbpgmojcbabGreatLsBook09
import Derived.Test.YtbjbjbpgmojcbabGreatLsBook11
set_option maxRecDepth 8000
set_option maxHeartbeats 8000000
namespace Go.Proofs.YtbjbjbpgmojcbabGreat
open Go.RowKit
def PN:List PanicEntry:=[{ v:=.iface 26 (.int .i64 1),recovered:=false }]
structure Rdr (w:World) (p:Nat) (s:ByteArray):Prop where
 c:w.cell? ⟨p,0,none⟩=some (.string s)
 f:w.frozen? ⟨p,0,none⟩=false
theorem Rdr.lt {w:World} {p:Nat} {s:ByteArray} (h:Rdr w p s):p<w.heap.size:=cL w _ h.c
theorem Rdr.below {w w':World} {p:Nat} {s:ByteArray} (h:Rdr w p s) (G:Below w.heap.size w w'):Rdr w' p s:=⟨(G.cell (p:=⟨p,0,none⟩) h.lt).trans h.c,(G.frozen (p:=⟨p,0,none⟩) h.lt).trans h.f⟩
theorem Rdr.set {w:World} {p:Nat} {s:ByteArray} (h:Rdr w p s) (r:ByteArray):Rdr (w.setCell ⟨p,0,none⟩ (.string r)) p r:=⟨cS _ _ _ h.c,by rw [fS];exact h.f⟩
def On (p:Nat) (w w':World):Prop:=w.grownBy w' (some p)
theorem On.refl (p:Nat) (w:World):On p w w:=⟨rfl,rfl,rfl,nl _,fun _ _ _=>rfl⟩
theorem On.of {p:Nat} {w w':World} (G:Below w.heap.size w w'):On p w w':=⟨G.os,G.tape,G.output,G.size,fun k hk _=>G.block k hk⟩
theorem On.trans {p:Nat} {a b c:World} (h:On p a b) (g:On p b c):On p a c:=⟨g.os.trans h.os,g.tape.trans h.tape,g.output.trans h.output,Nat.le_trans h.size g.size,fun k hk hne=>(g.block k (nT hk h.size) hne).trans (h.block k hk hne)⟩
theorem On.set {p:Nat} {w w':World} (h:On p w w') (v:Value):On p w (w'.setCell ⟨p,0,none⟩ v):=h.trans (Zb w' ⟨p,0,none⟩ v)
def ZE {α:Type} (r:Option (α × ByteArray)) (val:α->Value) (p:Nat) (w:World) (e:Ending) (w':World):Prop:=On p w w'/\match r with
 | none=>e=.panicked PN
 | some (x,q)=>e=.returned (val x)/\Rdr w' p q
theorem ZaX {α:Type} {r:Option (α × ByteArray)} {val:α->Value} {p:Nat} {w w':World} (hr:r=none) (h:On p w w'):ZE r val p w (.panicked PN) w':=by subst hr;exact ⟨h,rfl⟩
theorem Zbz {α:Type} {r:Option (α × ByteArray)} {val:α->Value} {p:Nat} {w w':World} {x:α} {q:ByteArray} (hr:r=some (x,q)) (h:On p w w') (h2:Rdr w' p q):ZE r val p w (.returned (val x)) w':=by subst hr;exact ⟨h,rfl,h2⟩
theorem Zed (w:World):Calls Tryz.prog 151 #[.bool true] w fun e w'=>e=.returned (.tuple #[])/\w'=w:=by
 go_enter Tryz.func151,Tryz.ntmps151
 go_wp2_with fail
 go_end0
 exact ⟨rfl,rfl⟩
theorem ZfT (w:World):Calls Tryz.prog 151 #[.bool false] w fun e w'=>e=.panicked PN/\w'=w:=by
 unfold PN;go_enter Tryz.func151,Tryz.ntmps151
 go_wp2_with fail
 exact ⟨rfl,rfl,rfl⟩
namespace Im
theorem ZeX {s:ByteArray} {n k:Nat} (h:Nm.Zk s.data.toList=some (n,k)):rNum s=some (n,s.extract k s.size):=by unfold rNum;rw [h]
theorem ZjA {s:ByteArray} (h:Nm.Zk s.data.toList=none):rNum s=none:=by unfold rNum;rw [h]
end Im
theorem Zdn (s:ByteArray) (p:Nat) (w:World) (h:Rdr w p s) (hs:s.size<=281474976710656) :
 Calls Tryz.prog 152 #[.pointer (some ⟨p,0,none⟩)] w fun e w'=>ZE (Im.rNum s) (fun n=>.int .i64 (n:Nat)) p w e w':=by
 have c:=h.c
 cases hf:Nm.Zk s.data.toList with
 | none =>
  have hQ:Hid (∀ w',On p w w'->ZE (Im.rNum s) (fun n=>.int .i64 (n:Nat)) p w (.panicked PN) w'):=fun w' h9=>ZaX (Im.ZjA hf) h9
  generalize ZE (Im.rNum s) (fun n=>.int .i64 (n:Nat)) p w=Q at *;have C1:=Zgs s w hs hf;clear hf h;go_enter Tryz.func152,Tryz.ntmps152
  go_wp2_with fail
  refine C1.mono ?_;rintro e w1 ⟨rfl,G⟩;go_wp2_with fail
  refine (ZfT _).mono ?_;rintro e w2 ⟨rfl,rfl⟩;go_wp2_with fail
  exact ⟨rfl,hQ.out _ (On.of G)⟩
 | some x =>
  obtain ⟨n,k⟩:=x;have hQ:Hid (∀ w',On p w w'->Rdr w' p (s.extract k s.size)->ZE (Im.rNum s) (fun n=>.int .i64 (n:Nat)) p w (.returned (.int .i64 (n:Nat))) w'):=fun w' h9 h8=>Zbz (Im.ZeX hf) h9 h8
  generalize ZE (Im.rNum s) (fun n=>.int .i64 (n:Nat)) p w=Q at *;have C1:=Zbv s w n k hs hf;have hR:Hid (∀ w',Below w.heap.size w w'->Rdr w' p s):=fun w' h9=>h.below h9
  clear hf h;generalize s.extract k s.size=r at *;go_enter Tryz.func152,Tryz.ntmps152
  go_wp2_with fail
  refine C1.mono ?_;rintro e w1 ⟨rfl,G⟩;go_wp2_with fail
  refine (Zed _).mono ?_;rintro e w2 ⟨rfl,rfl⟩;have R1:=hR.out _ G;have c1:=R1.c;have f1:=R1.f;go_wp2_with fail
  exact hQ.out _ ((On.of G).set _) (R1.set _)
namespace Im
theorem Zmq {m:Nat} {s:ByteArray} {n k:Nat} (h:Nm.Zk s.data.toList=some (n,k)) (h1:n<=m) (h2:k+n<=s.size):rCnt m s=some (s.extract k (k+n),s.extract (k+n) s.size):=by
 have hk:=(Nm.Zah h).2.2.1;have hz:(s.extract k s.size).size=s.size - k:=by simp
 unfold rCnt;rw [ZeX h];simp only;rw [if_pos ⟨h1,by omega⟩]
 congr 2
 ·apply Nm.ZG;rw [ZcZ,Zap];simp [ByteArray.data_extract,Array.toList_extract,List.extract]
 ·apply Nm.ZG;rw [Zap,Zap,Zap,List.drop_drop]
theorem ZpU {m:Nat} {s:ByteArray} {n k:Nat} (h:Nm.Zk s.data.toList=some (n,k)) (h1:m<n\/s.size<k+n):rCnt m s=none:=by
 have hk:=(Nm.Zah h).2.2.1;rw [<-Zj] at hk;have hz:(s.extract k s.size).size=s.size - k:=by simp
 unfold rCnt;rw [ZeX h];simp only;rw [if_neg (by omega)]
theorem Zmy {m:Nat} {s:ByteArray} (h:Nm.Zk s.data.toList=none):rCnt m s=none:=by unfold rCnt;rw [ZjA h]
end Im
theorem Zfk (s:ByteArray) (p:Nat) (w:World) (h:Rdr w p s) (hs:s.size<=281474976710656) :
 Calls Tryz.prog 117 #[.pointer (some ⟨p,0,none⟩)] w fun e w'=>ZE (Im.rCnt 512 s) Value.string p w e w':=by
 have c:=h.c
 have bad:Im.rCnt 512 s=none->(Calls Tryz.prog 153 #[.string s] w fun e w'=>e=.returned (.tuple #[.string ⟨#[]⟩,.string ⟨#[]⟩,.int .i64 1])/\Below w.heap.size w w')->Calls Tryz.prog 117 #[.pointer (some ⟨p,0,none⟩)] w fun e w'=>ZE (Im.rCnt 512 s) Value.string p w e w':=by
  intro hu C1;have hQ:Hid (∀ w',On p w w'->ZE (Im.rCnt 512 s) Value.string p w (.panicked PN) w'):=fun w' h9=>ZaX hu h9
  generalize ZE (Im.rCnt 512 s) Value.string p w=Q at *;clear hu h;go_enter Tryz.func117,Tryz.ntmps117
  go_wp2_with fail
  refine C1.mono ?_;rintro e w1 ⟨rfl,G⟩;go_wp2_with fail
  refine (ZfT _).mono ?_;rintro e w2 ⟨rfl,rfl⟩;go_wp2_with fail
  exact ⟨rfl,hQ.out _ (On.of G)⟩
 cases hf:Nm.Zk s.data.toList with
 | none=>exact bad (Im.Zmy hf) (Zfy s w hs hf)
 | some x =>
  obtain ⟨n,k⟩:=x;by_cases hb:512<n\/s.size<k+n
  ·exact bad (Im.ZpU hf hb) (ZhZ s w n k hs hf hb)
  ·have hu:=Im.Zmq (m:=512) hf (by omega) (by omega);have C1:=Zhs s w n k hs hf (by omega) (by omega);have hQ:Hid (∀ w',On p w w'->Rdr w' p (s.extract (k+n) s.size)->ZE (Im.rCnt 512 s) Value.string p w (.returned (.string (s.extract k (k+n)))) w'):=fun w' h9 h8=>Zbz hu h9 h8
   generalize ZE (Im.rCnt 512 s) Value.string p w=Q at *;have hR:Hid (∀ w',Below w.heap.size w w'->Rdr w' p s):=fun w' h9=>h.below h9
   clear hf h hu bad hb;generalize s.extract (k+n) s.size=r at *;generalize s.extract k (k+n)=u at *;go_enter Tryz.func117,Tryz.ntmps117
   go_wp2_with fail
   refine C1.mono ?_;rintro e w1 ⟨rfl,G⟩;go_wp2_with fail
   refine (Zed _).mono ?_;rintro e w2 ⟨rfl,rfl⟩;have R1:=hR.out _ G;have c1:=R1.c;have f1:=R1.f;go_wp2_with fail
   exact hQ.out _ ((On.of G).set _) (R1.set _)
theorem ZcE (s:ByteArray) (p:Nat) (w:World) (h:Rdr w p s) (hs:s.size<=281474976710656) :
 Calls Tryz.prog 125 #[.pointer (some ⟨p,0,none⟩)] w fun e w'=>ZE (Im.rCnt 2147483647 s) Value.string p w e w':=by
 have C1:=Zdn s p w h hs;unfold ZE at C1
 cases hr:Im.rNum s with
 | none =>
  have hu:Im.rCnt 2147483647 s=none:=by unfold Im.rCnt;rw [hr]
  have hQ:Hid (∀ w',On p w w'->ZE (Im.rCnt 2147483647 s) Value.string p w (.panicked PN) w'):=fun w' h9=>ZaX hu h9
  generalize ZE (Im.rCnt 2147483647 s) Value.string p w=Q at *;rw [hr] at C1;simp only at C1;clear hr hu h;go_enter Tryz.func125,Tryz.ntmps125
  go_wp2_with fail
  refine C1.mono ?_;rintro e w1 ⟨G,rfl⟩;go_wp2_with fail
  exact ⟨rfl,hQ.out _ G⟩
 | some x =>
  obtain ⟨n,q⟩:=x;rw [hr] at C1;simp only at C1;have hn:=((Im.Zax s n q).1 hr).1
  have hqs:q.size<=s.size:=by
   have:=congrArg List.length ((Im.Zax s n q).1 hr).2;rw [List.length_append,<-Im.Zj,<-Im.Zj] at this;omega
  by_cases hle:n<=q.size
  ·have hu:Im.rCnt 2147483647 s=some (q.extract 0 n,q.extract n q.size):=by unfold Im.rCnt;rw [hr];exact if_pos ⟨hn,hle⟩
   have hQ:Hid (∀ w',On p w w'->Rdr w' p (q.extract n q.size)->ZE (Im.rCnt 2147483647 s) Value.string p w (.returned (.string (q.extract 0 n))) w'):=fun w' h9 h8=>Zbz hu h9 h8
   generalize ZE (Im.rCnt 2147483647 s) Value.string p w=Q at *;have d1:decide ((n:Int)<=(q.size:Int))=true:=zdT (by omega);have d1':decide (n<=q.size)=true:=zdT hle;have hni:(n:Int)<=(q.size:Int):=by omega
   clear hr hu h;go_enter Tryz.func125,Tryz.ntmps125
   go_wp2_with fail
   refine C1.mono ?_;rintro e w1 ⟨G,rfl,R1⟩;have c1:=R1.c;go_wp2_with fail
   refine (Zed _).mono ?_;rintro e w2 ⟨rfl,rfl⟩;go_wp2_with fail
   refine (ZP _ _ (by simp;omega)).mono ?_;rintro e w3 ⟨rfl,G3⟩;have R3:=R1.below G3;have c3:=R3.c;have f3:=R3.f;go_wp2_with fail
   exact hQ.out _ ((G.trans (On.of G3)).set _) (R3.set _)
  ·have hu:Im.rCnt 2147483647 s=none:=by unfold Im.rCnt;rw [hr];exact if_neg (fun h9=>hle h9.2)
   have hQ:Hid (∀ w',On p w w'->ZE (Im.rCnt 2147483647 s) Value.string p w (.panicked PN) w'):=fun w' h9=>ZaX hu h9
   generalize ZE (Im.rCnt 2147483647 s) Value.string p w=Q at *;have d1:decide ((n:Int)<=(q.size:Int))=false:=dF (by omega);have d1':decide (n<=q.size)=false:=dF hle;clear hr hu h;go_enter Tryz.func125,Tryz.ntmps125
   go_wp2_with fail
   refine C1.mono ?_;rintro e w1 ⟨G,rfl,R1⟩;have c1:=R1.c;go_wp2_with fail
   refine (ZfT _).mono ?_;rintro e w2 ⟨rfl,rfl⟩;go_wp2_with fail
   exact ⟨rfl,hQ.out _ G⟩
def rEnd (s:ByteArray):Option (Unit × ByteArray):=if s.size=0 then some ((),s) else none
theorem Zoy (s:ByteArray) (p:Nat) (w:World) (h:Rdr w p s) :
 Calls Tryz.prog 119 #[.pointer (some ⟨p,0,none⟩)] w fun e w'=>ZE (rEnd s) (fun _=>.tuple #[]) p w e w':=by
 have c:=h.c;by_cases hz:s.size=0
 ·have hQ:Hid (∀ w',On p w w'->Rdr w' p s->ZE (rEnd s) (fun _=>.tuple #[]) p w (.returned (.tuple #[])) w'):=fun w' h9 h8=>Zbz (x:=()) (if_pos hz) h9 h8
  generalize ZE (rEnd s) (fun _=>.tuple #[]) p w=Q at *
  obtain rfl:s=⟨#[]⟩:=by
   apply Nm.ZG;rw [Im.Zj] at hz;exact List.length_eq_zero_iff.1 hz
  go_enter Tryz.func119,Tryz.ntmps119
  go_wp2_with fail
  refine (Zed _).mono ?_;rintro e w2 ⟨rfl,rfl⟩;go_wp2_with fail
  go_end0
  exact hQ.out _ (On.refl _ _) h
 ·have hQ:Hid (∀ w',On p w w'->ZE (rEnd s) (fun _=>.tuple #[]) p w (.panicked PN) w'):=fun w' h9=>ZaX (if_neg hz) h9
  generalize ZE (rEnd s) (fun _=>.tuple #[]) p w=Q at *
  have d1:s.toList.isEmpty=false:=by
   cases hl:s.toList with
   | nil=>exact absurd (by rw [Im.Zj,<-ByteArray.toList_eq,hl];rfl) hz
   | cons=>rfl
  go_enter Tryz.func119,Tryz.ntmps119
  go_wp2_with fail
  refine (ZfT _).mono ?_;rintro e w2 ⟨rfl,rfl⟩;go_wp2_with fail
  exact ⟨rfl,hQ.out _ (On.refl _ _)⟩
theorem Zbw (s:ByteArray) (w:World) :
 Calls Tryz.prog 114 #[.string s] w fun e w'=>e=.returned (.pointer (some ⟨w.heap.size,0,none⟩))/\w'=w.alloc (.cells #[.string s] 143 (0,0)):=by
 go_enter Tryz.func114,Tryz.ntmps114
 go_wp2_with fail
 go_ret
 exact ⟨rfl,rfl⟩
theorem ZlP {α:Type} {p:ByteArray->Option (α × ByteArray)} {enc:α->Im.B} {ok:α->Prop} (hp:Im.Rd p enc ok) {s r:ByteArray} {x:α} (h:p s=some (x,r)):r.size<=s.size:=by
 have:=congrArg List.length ((hp s x r).1 h).2;rw [List.length_append,<-Im.Zj,<-Im.Zj] at this;omega
theorem On.set1 {p:Nat} {w w':World} (h:On p w w') {b:Nat} (hb:w.heap.size<=b) (o:Nat) (v:Value):On p w (w'.setCell ⟨b,o,none⟩ v) :=
 ⟨h.os,h.tape,h.output,by have:=h.size;simpa [World.setCell] using this,fun k hk hne=>(Below.heap_setCell _ _ _ _ (by simp;omega)).trans (h.block k hk hne)⟩
theorem On.past {p:Nat} {w w1 w':World} (h:On p w w1) (g:On p w1 w'):On p w w':=h.trans g
structure FB (w:World) (b:Nat) (f:Nat->Value):Prop where
 c:∀ i,i<5->w.cell? ⟨b,i,none⟩=some (f i)
 z:∀ i,i<5->w.frozen? ⟨b,i,none⟩=false
theorem FB.lt {w:World} {b:Nat} {f:Nat->Value} (h:FB w b f):b<w.heap.size:=cL w _ (h.c 0 (by omega))
theorem FB.on {w w':World} {b p:Nat} {f:Nat->Value} (h:FB w b f) (g:On p w w') (hne:b ≠ p):FB w' b f:=by
 have hb:=g.block b h.lt (by simp;omega);exact ⟨fun i hi=>(World.cell?_of_block (w:=w) (a:=⟨b,i,none⟩) hb).trans (h.c i hi),fun i hi=>(World.frozen?_of_block (w:=w) (a:=⟨b,i,none⟩) hb).trans (h.z i hi)⟩
theorem FB.set {w:World} {b:Nat} {f:Nat->Value} (h:FB w b f) (i:Nat) (hi:i<5) (v:Value):FB (w.setCell ⟨b,i,none⟩ v) b (fun j=>if j=i then v else f j):=by
 refine ⟨fun j hj=>?_,fun j hj=>by rw [fS];exact h.z j hj⟩;by_cases e:j=i
 ·subst e;rw [if_pos rfl];exact cS _ _ _ (h.c j hj)
 ·rw [if_neg e];exact (cO _ _ _ _ (by intro h9;exact e (congrArg Addr.off h9).symm)).trans (h.c j hj)
theorem FB.low {w:World} {b b':Nat} {f:Nat->Value} (h:FB w b f) (hne:b ≠ b') (o:Nat) (v:Value):FB (w.setCell ⟨b',o,none⟩ v) b f :=
 ⟨fun i hi=>(World.cell?_setCell_other _ _ _ _ (by intro e;have:=congrArg Addr.block e;simp at this;omega)).trans (h.c i hi),fun i hi=>by rw [World.frozen?_setCell];exact h.z i hi⟩
theorem Rdr.low {w:World} {p b:Nat} {s:ByteArray} (h:Rdr w p s) (hne:p ≠ b) (o:Nat) (v:Value):Rdr (w.setCell ⟨b,o,none⟩ v) p s :=
 ⟨(World.cell?_setCell_other _ _ _ _ (by intro e;have:=congrArg Addr.block e;simp at this;omega)).trans h.c,by rw [World.frozen?_setCell];exact h.f⟩
def fcs:List Ar.F->List Value
 | []=>[]
 | f :: fs=>[.string f.name,.int .i64 f.dict,.int .i64 f.size,.int .i64 f.sum,.string f.blk]++fcs fs
theorem Zai:∀ fs:List Ar.F,(fcs fs).length=fs.length*5
 | []=>rfl
 | f :: fs=>by rw [fcs,List.length_append,Zai fs,List.length_cons];simp;omega
theorem Zz:∀ fs gs:List Ar.F,fcs (fs++gs)=fcs fs++fcs gs
 | [],_=>rfl
 | f :: fs,gs=>by rw [List.cons_append,fcs,fcs,Zz fs gs,List.append_assoc]
structure ArOwn (lo:Nat) (w:World) (v1 v2:Value) (a:Ar.A):Prop where
 o1:w.ownsRow lo 9 1 v1 a.dicts.length (a.dicts.map Value.string)
 o2:w.ownsRow lo 46 5 v2 a.files.length (fcs a.files)
 ne:∀ j,v1.ownBlock=some j->v2.ownBlock ≠ some j
theorem box3 (w:World) (a b c:Array Value) (s t u:TypeId):(∀ i,(((w.alloc (.cells a s (0,0))).alloc (.cells b t (0,0))).alloc (.cells c u (0,0))).cell? ⟨w.heap.size,i,none⟩=a[i]?)/\(∀ i,(((w.alloc (.cells a s (0,0))).alloc (.cells b t (0,0))).alloc (.cells c u (0,0))).cell? ⟨w.heap.size+1,i,none⟩=b[i]?) ∧
 ∀ i,(((w.alloc (.cells a s (0,0))).alloc (.cells b t (0,0))).alloc (.cells c u (0,0))).cell? ⟨w.heap.size+2,i,none⟩=c[i]?:=by
 refine ⟨fun i=>?_,fun i=>?_,fun i=>?_⟩
 ·rw [World.cell?_alloc_lt _ _ _ (by simp;omega)];exact (box2 w a b s t).1 i
 ·rw [World.cell?_alloc_lt _ _ _ (by simp)];exact (box2 w a b s t).2 i
 ·have e:((w.alloc (.cells a s (0,0))).alloc (.cells b t (0,0))).heap.size=w.heap.size+2:=by simp
  rw [<-e,cN]
theorem ZsD {xs:List ByteArray} {k:Nat} (h:k<xs.length):(xs.take (k+1)).map Value.string=(xs.take k).map Value.string++[.string (Tr.xa xs k)]:=by
 rw [List.take_succ_eq_append_getElem h,List.map_append];simp [Tr.xa,h]
theorem ZpT {fs:List Ar.F} {k:Nat} (h:k<fs.length):fcs (fs.take (k+1))=fcs (fs.take k)++[.string (Ar.fa fs k).name,.int .i64 (Ar.fa fs k).dict,.int .i64 (Ar.fa fs k).size,.int .i64 (Ar.fa fs k).sum,.string (Ar.fa fs k).blk]:=by
 rw [Ar.ZQ h,Zz];rfl
theorem one5 (a b:ByteArray) (x y z:Int):∀ u ∈ ([.string a,.int .i64 x,.int .i64 y,.int .i64 z,.string b]:List Value),u.oneCell'=true:=by
 intro u hu;simp at hu;rcases hu with rfl | rfl | rfl | rfl | rfl <;> rfl
theorem ZdR (w:World) (p q r s t:Value) (T:TypeId):∀ j u,[p,q,r,s,t][j]?=some u->(w.alloc (.cells #[p,q,r,s,t] T)).cell? ((⟨w.heap.size,0,none⟩:Addr).add j)=some u:=by
 intro j u hj;rw [ZaY,World.cell?_alloc_mark];simpa using hj
theorem fz3 (w:World) (a b c:Array Value) (s t u:TypeId) (x o:Nat) (h1:x<w.heap.size+3) (h2:w.heap.size<=x):(((w.alloc (.cells a s (0,0))).alloc (.cells b t (0,0))).alloc (.cells c u (0,0))).frozen? ⟨x,o,none⟩=false:=by
 have e1:(w.alloc (.cells a s (0,0))).heap.size=w.heap.size+1:=by simp
 have e2:((w.alloc (.cells a s (0,0))).alloc (.cells b t (0,0))).heap.size=w.heap.size+2:=by simp
 by_cases k2:x=w.heap.size+2
 ·exact fN _ _ _ _ (by rw [e2];exact k2)
 ·rw [World.frozen?_alloc_past _ _ _ (by rw [e2];omega)];by_cases k1:x=w.heap.size+1
  ·exact fN _ _ _ _ (by rw [e1];exact k1)
  ·rw [World.frozen?_alloc_past _ _ _ (by rw [e1];omega)];exact fN _ _ _ _ (by omega)
theorem Zl {w:World} {b:Nat} {e:TypeId} {size:Nat} {v:Value} {n:Nat} {xs:List Value} (h:w.ownsRow b e size v n xs):∃ ad cap,v=.slice ad n cap/\n<=cap:=by
 rcases h.2 with ⟨h1,h2⟩ | ⟨g,cap,cur,h1,h2,h3,h4,_⟩
 ·exact ⟨none,0,by rw [h1,h2],by omega⟩
 ·exact ⟨_,cap,h1,h4⟩
theorem ZcY {w:World} {b c:Nat} {e:TypeId} {size:Nat} {v:Value} {n:Nat} {xs:List Value} (h:w.ownsRow b e size v n xs) (hc:c<=b):w.ownsRow c e size v n xs:=by
 refine ⟨h.1,?_⟩;rcases h.2 with h2 | ⟨g,cap,cur,h1,h2,h3⟩
 ·exact .inl h2
 ·exact .inr ⟨g,cap,cur,h1,by omega,h3⟩
theorem Zbn (ad af:Option Addr) (cd cf:Nat) (a:Ar.A) (w:World) (h:ArV w ad af a) (hs:SaneA a) (h4:a.dicts.length<=4) (h12:a.files.length<=12) :
 Calls Tryz.prog 53 #[av ad cd af cf a] w fun e w'=>∃ v1 v2,e=.returned (.agg #[v1,v2])/\ArOwn w.heap.size w' v1 v2 a/\Below w.heap.size w w':=by
 obtain ⟨i0,hi,hz0,hz1,hz2⟩:=info_parts (P:=Tryz.prog) (e:=9) (z:=.string ⟨#[]⟩) (size:=1) (bytes:=16) (by kernel_rfl);obtain ⟨j0,gi,gz0,gz1,gz2⟩:=info_parts (P:=Tryz.prog) (e:=46) (z:=.agg #[.string ⟨#[]⟩,.int .i64 0,.int .i64 0,.int .i64 0,.string ⟨#[]⟩]) (size:=5) (bytes:=56) (by kernel_rfl);have HFs:Hid (∀ k,k<a.files.length->fcs (a.files.take (k+1))=fcs (a.files.take k)++[.string (Ar.fa a.files k).name,.int .i64 (Ar.fa a.files k).dict,.int .i64 (Ar.fa a.files k).size,.int .i64 (Ar.fa a.files k).sum,.string (Ar.fa a.files k).blk]):=fun k hk=>ZpT hk
 have HX:Hid (∀ w',Below w.heap.size w w'->∀ k,k<a.dicts.length->∃ b off,ad=some ⟨b,off,none⟩/\b<w'.heap.size/\w'.cell? ⟨b,off+k,none⟩=some (.string (Tr.xa a.dicts k))):=fun w' hb k hk=>(h.ds.below hb).at hk
 have HFl:Hid (∀ w',Below w.heap.size w w'->∀ k,k<a.files.length->∃ b off,af=some ⟨b,off,none⟩/\b<w'.heap.size/\FlC w' b (off+k*5) (Ar.fa a.files k)):=fun w' h9 k hk=>(h.fs.below h9).at hk
 have HZ:Hid (∀ k,(Tr.xa a.dicts k).size<=281474976710656/\(Ar.fa a.files k).name.size<=281474976710656/\(Ar.fa a.files k).blk.size<=281474976710656):=fun k=>⟨Nat.le_trans (hs.ds k) (by decide),Nat.le_trans (hs.nm k) (by decide),Nat.le_trans (hs.bk k) (by decide)⟩
 have HE:Hid (∀ v1 v2 w',w'.ownsRow (w.heap.size+3) 9 1 v1 a.dicts.length (a.dicts.map Value.string)->w'.ownsRow (w.heap.size+3) 46 5 v2 a.files.length (fcs a.files)->(∀ j,v1.ownBlock=some j->v2.ownBlock ≠ some j)->ArOwn w.heap.size w' v1 v2 a):=fun v1 v2 w' h1 h2 h3=>⟨ZcY h1 (by omega),ZcY h2 (by omega),h3⟩
 have HDs:Hid (∀ k,k<a.dicts.length->(a.dicts.take (k+1)).map Value.string=(a.dicts.take k).map Value.string++[.string (Tr.xa a.dicts k)]):=fun k hk=>ZsD hk
 clear h hs;unfold av
 obtain ⟨D,hD⟩:∃ D,a.dicts.length=D:=⟨_,rfl⟩
 obtain ⟨N,hN⟩:∃ N,a.files.length=N:=⟨_,rfl⟩
 simp only [hD,hN] at HX HFl HE HDs HFs;rw [hD] at h4 |-
 rw [hN] at h12 |-
 have HDD:Hid (a.dicts.length=D):=hD;have HNN:Hid (a.files.length=N):=hN;clear hD hN;have hD':(D:Int)<=4:=by omega
 have hN':(N:Int)<=12:=by omega
 go_enter Tryz.func53,Tryz.ntmps53
 go_wp2_with fail
 obtain ⟨k1,k2,k3⟩:=box3 w #[.slice ad D cd,.slice af N cf] #[.slice none 0 0,.slice none 0 0] #[.slice none 0 0,.slice none 0 0] 25 25 25;have B0:Below w.heap.size w (((w.alloc (.cells #[.slice ad D cd,.slice af N cf] 25 (0,0))).alloc (.cells #[.slice none 0 0,.slice none 0 0] 25 (0,0))).alloc (.cells #[.slice none 0 0,.slice none 0 0] 25 (0,0))):=(((Below.refl _ _).alloc (Nat.le_refl _) _).alloc (by simp) _).alloc (by simp;omega) _;have hsz:(((w.alloc (.cells #[.slice ad D cd,.slice af N cf] 25 (0,0))).alloc (.cells #[.slice none 0 0,.slice none 0 0] 25 (0,0))).alloc (.cells #[.slice none 0 0,.slice none 0 0] 25 (0,0))).heap.size=w.heap.size+3:=by simp
 have fz:∀ b o,b<w.heap.size+3->w.heap.size<=b->(((w.alloc (.cells #[.slice ad D cd,.slice af N cf] 25 (0,0))).alloc (.cells #[.slice none 0 0,.slice none 0 0] 25 (0,0))).alloc (.cells #[.slice none 0 0,.slice none 0 0] 25 (0,0))).frozen? ⟨b,o,none⟩=false:=fun b o h1 h2=>fz3 w _ _ _ _ _ _ b o h1 h2
 generalize (((w.alloc (.cells #[.slice ad D cd,.slice af N cf] 25 (0,0))).alloc (.cells #[.slice none 0 0,.slice none 0 0] 25 (0,0))).alloc (.cells #[.slice none 0 0,.slice none 0 0] 25 (0,0)))=w3 at *;have a0:w3.cell? ⟨w.heap.size,0,none⟩=some (.slice ad D cd):=k1 0;have a1:w3.cell? ⟨w.heap.size,1,none⟩=some (.slice af N cf):=k1 1;have r0:w3.cell? ⟨w.heap.size+1,0,none⟩=some (.slice none 0 0):=k2 0;have r1:w3.cell? ⟨w.heap.size+1,1,none⟩=some (.slice none 0 0):=k2 1
 have S0:ClS w3 w3 (w.heap.size+2) (w.heap.size+3) (.slice none 0 0) (.slice none 0 0) 0 0 [] [] :=
  ⟨k3 0,k3 1,fz _ _ (by omega) (by omega),fz _ _ (by omega) (by omega),⟨rfl,.inl ⟨rfl,rfl⟩⟩,⟨rfl,.inl ⟨rfl,rfl⟩⟩,fun j hj=>by simp [Value.ownBlock] at hj,by omega,by omega,Below.refl _ _⟩
 have zr:=fz (w.heap.size+1) 0 (by omega) (by omega);have zr1:=fz (w.heap.size+1) 1 (by omega) (by omega);have hszH:Hid (w3.heap.size=w.heap.size+3):=hsz;have hs1:w.heap.size<w3.heap.size:=by omega
 have hs2:w.heap.size+1<w3.heap.size:=by omega
 have hs3:w.heap.size+2<w3.heap.size:=by omega
 clear k1 k2 k3 fz hsz;go_loopw [11] (fun i wr=>∃ (k:Nat) (v:Value),k<=D/\i=.int .i64 k/\ClS w3 wr (w.heap.size+2) (w.heap.size+3) v (.slice none 0 0) k 0 ((a.dicts.take k).map Value.string) []) (fun i _=>D - (intOf i).toNat)
 case atStart=>exact ⟨0,.slice none 0 0,by omega,rfl,S0⟩
 case round =>
  clear S0;obtain ⟨k,v,hk2,rfl,S1⟩:=hrel;have B1:Below w.heap.size w wr:=B0.trans (S1.bel.mono (by omega));have hzr:w.heap.size+3<=wr.heap.size:=S1.hb;have a1':=(S1.bel.cell (p:=⟨w.heap.size,1,none⟩) (by show w.heap.size<_;omega)).trans a1;by_cases hlt:k<D
  ·have d1:decide ((k:Int)<(D:Int))=true:=by simp;omega
   have d1':decide (k<D)=true:=by simp;omega
   have hki:(k:Int)<(D:Int):=by omega
   obtain ⟨b,off,rfl,hbl,hc⟩:=HX.out wr B1 k hlt;have xz:=(HZ.out k).1;have HS:=HDs.out k hlt;generalize Tr.xa a.dicts k=X at *;have c0:=S1.c0;have f0:=S1.f0;go_wp2_with fail
   go_region_law (first
    | (refine step_append_lies _ rfl _ _ 22 rfl (w.heap.size+3) 9 i0 (.string ⟨#[]⟩) 1 16 Tryz.underlying22 hi hz0 hz1 hz2 rfl (by decide) v _ _ rfl (S2.o1.alloc _) ⟨w2.heap.size,0,none⟩ 1 1 [.string X] rfl rfl (cell_one_new _ _ _) (by simp [Value.oneCell']) (by decide) (by unfold maxLen;omega) (by omega) (by simp;omega) _ rfl ?_;intro g cp w5 hown5 hgrow5 hat5 hlt5;obtain ⟨⟨q1,q2⟩,S3⟩:=S2.put1 hgrow5 hown5 hat5;clear hgrow5 hown5 hat5 hlt5)
    | (go_simp;go_at_call 69;refine (ZP _ _ xz).mono ?_;rintro e w2 ⟨rfl,G2⟩;have S2:=S1.below (Below.trans ((Below.refl _ _).drew) G2);have c2:=S2.c0;have c3:∀ o,(w2.alloc o).cell? ⟨w.heap.size+2,0,none⟩=some v:=(fun o=>(World.cell?_alloc_lt _ _ _ (World.block_lt_of_cell? w2 _ c2)).trans c2);have hb2:=S2.hb))
   all_goals
    go_wp2_with fail
    go_roundw
    case rel=>exact ⟨k+1,_,by omega,by go_num,by rw [HS];exact S3⟩
    case measure=>simp [intOf];omega
  ·obtain rfl:k=D:=by omega
   have d1:decide ((k:Int)<(k:Int))=false:=by simp
   have HTD:Hid (a.dicts.take k=a.dicts):=by show _=_;rw [<-HDD.out,List.take_length]
   rw [HTD.out] at S1;have S2:ClS w3 wr (w.heap.size+2) (w.heap.size+3) v (.slice none 0 0) k 0 (a.dicts.map Value.string) (fcs (a.files.take 0)):=S1;clear S1 B1 hzr;go_wp2_with fail
   clear a1';go_loopw [26] (fun i wr=>∃ (m:Nat) (v2:Value),m<=N/\i=.int .i64 m/\ClS w3 wr (w.heap.size+2) (w.heap.size+3) v v2 k m (a.dicts.map Value.string) (fcs (a.files.take m))) (fun i _=>N - (intOf i).toNat)
   case atStart=>exact ⟨0,.slice none 0 0,by omega,rfl,S2⟩
   case round =>
    clear S2;obtain ⟨m,v2,hm2,rfl,S1⟩:=hrel;have B1:Below w.heap.size w wr:=B0.trans (S1.bel.mono (by omega));have hzr:w.heap.size+3<=wr.heap.size:=S1.hb;by_cases hlt:m<N
    ·have d2:decide ((m:Int)<(N:Int))=true:=by simp;omega
     have d2':decide (m<N)=true:=by simp;omega
     have hmi:(m:Int)<(N:Int):=by omega
     obtain ⟨b,off,rfl,hbl,hc⟩:=HFl.out wr B1 m hlt;obtain ⟨c0,c1,c2,c3,c4⟩:=hc;have xz:=(HZ.out m).2.1;have xz4:=(HZ.out m).2.2;have HS:=HFs.out m hlt;generalize (Ar.fa a.files m).name=f0 at *;generalize (Ar.fa a.files m).dict=f1 at *;generalize (Ar.fa a.files m).size=f2 at *;generalize (Ar.fa a.files m).sum=f3 at *;generalize (Ar.fa a.files m).blk=f4 at *;have C0:=fun w=>ZP f0 w xz
     have C4:=fun w=>ZP f4 w xz4
     go_wp2_with fail
     have S2:=S1.below ((bR _ _).alloc (nl _) (.cells #[.string f0,.int .i64 f1,.int .i64 f2,.int .i64 f3,.string f4] 46 (0,0)));have hF:=fun i=>cN wr #[.string f0,.int .i64 f1,.int .i64 f2,.int .i64 f3,.string f4] 46 i
     have hFz:=fun i=>fN (w:=wr) #[.string f0,.int .i64 f1,.int .i64 f2,.int .i64 f3,.string f4] 46 _ i rfl
     have hFs:wr.heap.size<(wr.alloc (.cells #[.string f0,.int .i64 f1,.int .i64 f2,.int .i64 f3,.string f4] 46 (0,0))).heap.size:=by simp
     generalize (wr.alloc (.cells #[.string f0,.int .i64 f1,.int .i64 f2,.int .i64 f3,.string f4] 46 (0,0)))=wF at *;generalize wr.heap.size=Fb at *
     have HSS:Hid (∀ w',Below wF.heap.size wF w'->Below wF.heap.size wF w'/\w'.cell? ⟨Fb,0,none⟩=some (.string f0)/\w'.cell? ⟨Fb,4,none⟩=some (.string f4)/\w'.frozen? ⟨Fb,0,none⟩=false/\w'.frozen? ⟨Fb,4,none⟩=false):=fun w' h9 =>
      ⟨h9,(h9.cell (p:=⟨Fb,0,none⟩) hFs).trans (hF 0),(h9.cell (p:=⟨Fb,4,none⟩) hFs).trans (hF 4),(h9.frozen (p:=⟨Fb,0,none⟩) hFs).trans (hFz 0),(h9.frozen (p:=⟨Fb,4,none⟩) hFs).trans (hFz 4)⟩
     have HW:Hid (∀ w',Below wF.heap.size wF w'->w'.setCell ⟨Fb,0,none⟩ (.string f0)=w'/\w'.setCell ⟨Fb,4,none⟩ (.string f4)=w'):=fun w' h9 =>
      ⟨ZR (HSS.out w' h9).2.1,ZR (HSS.out w' h9).2.2.1⟩
     have HF:Hid (∀ w',Below wF.heap.size wF w'->∀ i,w'.cell? ⟨Fb,i,none⟩=(#[.string f0,.int .i64 f1,.int .i64 f2,.int .i64 f3,.string f4]:Array Value)[i]?):=fun w' h9 i=>(h9.cell (p:=⟨Fb,i,none⟩) hFs).trans (hF i)
     clear hF hFz c0 c1 c2 c3 c4 B1 S1 hbl;go_region_held3 (fun w'=>Below wF.heap.size wF w'/\w'.cell? ⟨Fb,0,none⟩=some (.string f0)/\w'.cell? ⟨Fb,4,none⟩=some (.string f4)/\w'.frozen? ⟨Fb,0,none⟩=false/\w'.frozen? ⟨Fb,4,none⟩=false)
      (first | (exact HSS.out _ ((bR _ _).drew)) | (exact HSS.out _ (bch (And.left (by assumption)) G6 (nl _))) | (exact HSS.out _ (bch (And.left (by assumption)) G5 (nl _))) | (rw [(HW.out _ (And.left (by assumption))).1];assumption) | (rw [(HW.out _ (And.left (by assumption))).2];assumption))
      (first
       | (go_at_call 69;refine (C0 _).mono ?_;rintro e w5 ⟨rfl,G5⟩)
       | (go_at_call 69;refine (C4 _).mono ?_;rintro e w6 ⟨rfl,G6⟩))
     have G56:Below wF.heap.size wF w6:=bch (bch ((bR _ _).drew) G5 (nl _)) G6 (nl _);rw [(HW.out _ G56).1,(HW.out _ G56).2];have S3:=S2.below G56;have hF:=HF.out w6 G56;have b0:w6.cell? ⟨Fb,0,none⟩=some (.string f0):=hF 0;have b1:w6.cell? ⟨Fb,1,none⟩=some (.int .i64 f1):=hF 1;have b2:w6.cell? ⟨Fb,2,none⟩=some (.int .i64 f2):=hF 2;have b3:w6.cell? ⟨Fb,3,none⟩=some (.int .i64 f3):=hF 3;have b4:w6.cell? ⟨Fb,4,none⟩=some (.string f4):=hF 4;have c1:=S3.c1;have hb3:=S3.hb;clear HSS HW HF G5 G6 G56 S2 C0 C4 hF
     go_wp2_with (first
      | (at_builtin;refine wpList_append_lies _ rfl _ _ 23 rfl (w.heap.size+3) 46 j0 (.agg #[.string ⟨#[]⟩,.int .i64 0,.int .i64 0,.int .i64 0,.string ⟨#[]⟩]) 5 56 Tryz.underlying23 gi gz0 gz1 gz2 rfl (by decide) v2 _ _ rfl (S3.o2.alloc _) ⟨w6.heap.size,0,none⟩ 1 1 [.string f0,.int .i64 f1,.int .i64 f2,.int .i64 f3,.string f4] rfl rfl (ZdR _ _ _ _ _ _ _) (one5 _ _ _ _ _) (by decide) (by unfold maxLen;omega) (by omega) (by simp;omega) _ rfl ?_;intro g cp w7 hown7 hgrow7 hat7 hlt7;obtain ⟨⟨q1,q2⟩,S4⟩:=S3.put2 hgrow7 hown7 hat7;clear hgrow7 hown7 hat7 hlt7)
      | fail)
     go_roundw
     case rel=>exact ⟨m+1,_,by omega,by go_num,by rw [HS];exact S4⟩
     case measure=>simp [intOf];omega
    ·obtain rfl:m=N:=by omega
     have d2:decide ((m:Int)<(m:Int))=false:=by simp
     have HTN:Hid (a.files.take m=a.files):=by show _=_;rw [<-HNN.out,List.take_length]
     rw [HTN.out] at S1;have r0':=(S1.bel.cell (p:=⟨w.heap.size+1,0,none⟩) (by show w.heap.size+1<_;omega)).trans r0;have r1':=(S1.bel.cell (p:=⟨w.heap.size+1,1,none⟩) (by show w.heap.size+1<_;omega)).trans r1;have z0':=(S1.bel.frozen (p:=⟨w.heap.size+1,0,none⟩) (by show w.heap.size+1<_;omega)).trans zr;have z1':=(S1.bel.frozen (p:=⟨w.heap.size+1,1,none⟩) (by show w.heap.size+1<_;omega)).trans zr1;have c0:=S1.c0;have c1:=S1.c1;have g1:=Zb wr ⟨w.heap.size+1,0,none⟩ v;have g2:=Zb (wr.setCell ⟨w.heap.size+1,0,none⟩ v) ⟨w.heap.size+1,1,none⟩ v2
     have S5:ArOwn w.heap.size ((wr.setCell ⟨w.heap.size+1,0,none⟩ v).setCell ⟨w.heap.size+1,1,none⟩ v2) v v2 a :=
      HE.out v v2 _ ((S1.o1.kept g1 (.inr (Zau S1.o1 (by show w.heap.size+1<_;omega)).symm)).kept g2 (.inr (Zau S1.o1 (by show w.heap.size+1<_;omega)).symm))
       ((S1.o2.kept g1 (.inr (Zau S1.o2 (by show w.heap.size+1<_;omega)).symm)).kept g2 (.inr (Zau S1.o2 (by show w.heap.size+1<_;omega)).symm)) S1.ne
     have u0:((wr.setCell ⟨w.heap.size+1,0,none⟩ v).setCell ⟨w.heap.size+1,1,none⟩ v2).cell? ⟨w.heap.size+1,0,none⟩=some v:=(World.cell?_setCell_other _ _ _ _ (by intro e;have:=congrArg Addr.off e;simp at this)).trans (World.cell?_setCell_same _ _ _ r0');have u1:((wr.setCell ⟨w.heap.size+1,0,none⟩ v).setCell ⟨w.heap.size+1,1,none⟩ v2).cell? ⟨w.heap.size+1,1,none⟩=some v2:=World.cell?_setCell_same _ _ _ ((World.cell?_setCell_other _ _ _ _ (by intro e;have:=congrArg Addr.off e;simp at this)).trans r1');have B4:Below w.heap.size w ((wr.setCell ⟨w.heap.size+1,0,none⟩ v).setCell ⟨w.heap.size+1,1,none⟩ v2):=(B1.setCell (by show _<=w.heap.size+1;omega) _).setCell (by show _<=w.heap.size+1;omega) _;obtain ⟨p1,q1,rfl,_⟩:=Zl S1.o1;obtain ⟨p2,q2,rfl,_⟩:=Zl S1.o2;have hlt1:w.heap.size+1<wr.heap.size:=by omega
     clear HE HTN HFs HFl HX HDs HZ g1 g2;go_wp2_with fail
     generalize ((wr.setCell ⟨w.heap.size+1,0,none⟩ (.slice p1 k q1)).setCell ⟨w.heap.size+1,1,none⟩ (.slice p2 m q2))=wz at *;exact bodyPost_ret (v:=.agg #[.slice p1 k q1,.slice p2 m q2]) (by simp [results,Tryz.results53,go_sem,u0,u1]) rfl ⟨_,_,rfl,S5,B4⟩
theorem ZaH (w:World) (g i j:Nat) (v:Value) (h:i ≠ j):(w.setCell ⟨g,i,none⟩ v).cell? ⟨g,j,none⟩=w.cell? ⟨g,j,none⟩:=cO _ _ _ _ (by intro e;have:=congrArg Addr.off e;exact h this)
theorem Zje {w:World} {g i:Nat} {v u:Value} (h:w.cell? ⟨g,i,none⟩=some u):(w.setCell ⟨g,i,none⟩ v).cell? ⟨g,i,none⟩=some v:=cS _ _ _ h
def w5s (w:World) (g o:Nat) (v0 v1 v2 v3 v4:Value):World:=((((w.setCell ⟨g,o,none⟩ v0).setCell ⟨g,o+1,none⟩ v1).setCell ⟨g,o+2,none⟩ v2).setCell ⟨g,o+3,none⟩ v3).setCell ⟨g,o+4,none⟩ v4
theorem set5 {w:World} {g o:Nat} {u0 u1 u2 u3 u4:Value} (v0 v1 v2 v3 v4:Value) (h0:w.cell? ⟨g,o,none⟩=some u0) (h1:w.cell? ⟨g,o+1,none⟩=some u1) (h2:w.cell? ⟨g,o+2,none⟩=some u2) (h3:w.cell? ⟨g,o+3,none⟩=some u3) (h4:w.cell? ⟨g,o+4,none⟩=some u4) :
 (w5s w g o v0 v1 v2 v3 v4).cell? ⟨g,o,none⟩=some v0/\(w5s w g o v0 v1 v2 v3 v4).cell? ⟨g,o+1,none⟩=some v1/\(w5s w g o v0 v1 v2 v3 v4).cell? ⟨g,o+2,none⟩=some v2/\(w5s w g o v0 v1 v2 v3 v4).cell? ⟨g,o+3,none⟩=some v3/\(w5s w g o v0 v1 v2 v3 v4).cell? ⟨g,o+4,none⟩=some v4:=by
 unfold w5s;refine ⟨?_,?_,?_,?_,?_⟩
 ·rw [ZaH _ _ _ _ _ (by omega),ZaH _ _ _ _ _ (by omega),ZaH _ _ _ _ _ (by omega),ZaH _ _ _ _ _ (by omega)];exact Zje h0
 ·rw [ZaH _ _ _ _ _ (by omega),ZaH _ _ _ _ _ (by omega),ZaH _ _ _ _ _ (by omega)];exact Zje ((ZaH _ _ _ _ _ (by omega)).trans h1)
 ·rw [ZaH _ _ _ _ _ (by omega),ZaH _ _ _ _ _ (by omega)];exact Zje ((ZaH _ _ _ _ _ (by omega)).trans ((ZaH _ _ _ _ _ (by omega)).trans h2))
 ·rw [ZaH _ _ _ _ _ (by omega)];exact Zje ((ZaH _ _ _ _ _ (by omega)).trans ((ZaH _ _ _ _ _ (by omega)).trans ((ZaH _ _ _ _ _ (by omega)).trans h3)))
 ·exact Zje ((ZaH _ _ _ _ _ (by omega)).trans ((ZaH _ _ _ _ _ (by omega)).trans ((ZaH _ _ _ _ _ (by omega)).trans ((ZaH _ _ _ _ _ (by omega)).trans h4))))
theorem Zgh {B:Nat} {a w:World} (h:Below B a w) (g o:Nat) (v0 v1 v2 v3 v4:Value) (hg:B<=g):Below B a (w5s w g o v0 v1 v2 v3 v4):=((((h.setCell hg _).setCell hg _).setCell hg _).setCell hg _).setCell hg _
theorem ZbM (ad af:Option Addr) (cd cf:Nat) (a:Ar.A) (name text:ByteArray) (dict:Int) (w:World) (hx:TxSl w ad a.dicts) (hl:a.dicts.length<=4) (hd:(Ar.dct a.dicts dict).size<=256) (hh:Ar.has a.dicts dict=true) (ht:text.size<=512) (hn:name.size<=140737488355328) :
 Calls Tryz.prog 52 #[av ad cd af cf a,.string name,.string text,.int .i64 dict] w fun e w'=>e=.returned (.tuple #[fv (Ar.pk a.dicts name text dict),.int .i64 0])/\Below w.heap.size w w':=by
 have hb:=fun o p=>((Below.refl w.heap.size w).alloc (Nat.le_refl _) o).alloc (by simp) p
 have c1:=fun o p=>Zce ad af cd cf a dict ((w.alloc o).alloc p) (hx.below (hb o p)) (by omega) hh
 have hp:=Bk.Zis hd ht;have c2:=fun w=>ZqT (Ar.dct a.dicts dict) text w (by omega) (by omega)
 have c3:=fun w=>ZP name w (by omega)
 have c4:=fun w=>Znu text w (by omega)
 have e1:fv (Ar.pk a.dicts name text dict)=.agg #[.string name,.int .i64 dict,.int .i64 (text.size:Int),.int .i64 (ZaC text text.size:Nat),.string (Bk.pak (Ar.dct a.dicts dict) text).1]:=rfl;rw [e1];rw [hp.1] at c2;unfold av at c1 |-
 have hbk:(Bk.pak (Ar.dct a.dicts dict) text).1.size<=513:=by have:=hp.2.2;omega
 generalize (Bk.pak (Ar.dct a.dicts dict) text).1=K at *;generalize Ar.dct a.dicts dict=X at *;generalize ZaC text text.size=M at *;generalize a.dicts.length=D at *;generalize a.files.length=F at *;have ht':(text.size:Int)<=512:=by omega
 clear hx hp e1 hh hd;go_enter Tryz.func52,Tryz.ntmps52
 go_wp2_with fail
 refine (c1 _ _).mono ?_;rintro e w1 ⟨rfl,G⟩;have hz:w.heap.size+1<w1.heap.size:=by have:=G.size;simp at this;omega
 have r:=fun i=>(G.cell (p:=⟨w.heap.size+1,i,none⟩) (by simp)).trans ((box2 w #[.slice ad D cd,.slice af F cf] #[.string ⟨#[]⟩,.int .i64 0,.int .i64 0,.int .i64 0,.string ⟨#[]⟩] 25 46).2 i)
 have fz:∀ i,w1.frozen? ⟨w.heap.size+1,i,none⟩=false:=fun i=>(G.frozen (p:=⟨w.heap.size+1,i,none⟩) (by simp)).trans (World.frozen?_alloc_at _ _ _ _ (by simp))
 have B1:=bch (hb _ _) G (nl _);clear G c1 hb;go_wp2_with fail
 refine (c2 _).mono ?_;rintro e w2 ⟨rfl,G2⟩;have B2:=bch B1 G2 (nl _);have hz2:w.heap.size+1<w2.heap.size:=by have:=G2.size;omega
 have r2:=fun i=>(G2.cell (p:=⟨w.heap.size+1,i,none⟩) hz).trans (r i)
 have fz2:=fun i=>(G2.frozen (p:=⟨w.heap.size+1,i,none⟩) hz).trans (fz i)
 clear G2 r fz B1 c2;go_wp2_with fail
 refine (c3 _).mono ?_;rintro e w3 ⟨rfl,G3⟩;have B3:=bch B2 G3 (nl _);have r3:=fun i=>(G3.cell (p:=⟨w.heap.size+1,i,none⟩) hz2).trans (r2 i)
 have fz3:=fun i=>(G3.frozen (p:=⟨w.heap.size+1,i,none⟩) hz2).trans (fz2 i)
 have hz3:w.heap.size+1<w3.heap.size:=by have:=G3.size;omega
 clear G3 r2 fz2 B2 c3;go_wp2_with fail
 refine (c4 _).mono ?_;rintro e w4 ⟨rfl,rfl⟩;have r0:w4.cell? ⟨w.heap.size+1,0,none⟩=some (.string ⟨#[]⟩):=r3 0;have r1:w4.cell? ⟨w.heap.size+1,1,none⟩=some (.int .i64 0):=r3 1;have r2:w4.cell? ⟨w.heap.size+1,2,none⟩=some (.int .i64 0):=r3 2;have r4:w4.cell? ⟨w.heap.size+1,3,none⟩=some (.int .i64 0):=r3 3;have r5:w4.cell? ⟨w.heap.size+1,4,none⟩=some (.string ⟨#[]⟩):=r3 4;have y0:=fz3 0;have y1:=fz3 1;have y2:=fz3 2;have y3:=fz3 3;have y4:=fz3 4;clear r3 fz3 c4;go_wp2_with fail
 obtain ⟨k0,k1,k2,k3,k4⟩:=set5 (.string name) (.int .i64 dict) (.int .i64 (text.size:Int)) (.int .i64 (M:Int)) (.string K) r0 r1 r2 r4 r5;have B4:=Zgh B3 (w.heap.size+1) 0 (.string name) (.int .i64 dict) (.int .i64 (text.size:Int)) (.int .i64 (M:Int)) (.string K) (by omega);unfold w5s at k0 k1 k2 k3 k4 B4;simp only [Nat.zero_add] at k0 k1 k2 k3 k4 B4;generalize (((((w4.setCell ⟨w.heap.size+1,0,none⟩ (.string name)).setCell ⟨w.heap.size+1,1,none⟩ (.int .i64 dict)).setCell ⟨w.heap.size+1,2,none⟩ (.int .i64 (text.size:Int))).setCell ⟨w.heap.size+1,3,none⟩ (.int .i64 (M:Int))).setCell ⟨w.heap.size+1,4,none⟩ (.string K))=wz at *;exact bodyPost_ret (v:=.tuple #[.agg #[.string name,.int .i64 dict,.int .i64 (text.size:Int),.int .i64 (M:Int),.string K],.int .i64 0]) (by simp [results,Tryz.results52,go_sem,k0,k1,k2,k3,k4]) rfl ⟨rfl,B4⟩
theorem ZaN (w:World) (dT sT ty elem:TypeId) (g o dLen dCap:Nat) (a:Addr) (sLen sCap:Nat) (cur:Array Value) (t:TypeId) (cs:List Value)
 (hu:Tryz.prog.underlying dT=some (.slice elem)) (hs:(Tryz.prog.info? elem).map (·.size)=some 5)
 (hg:w.heap[g]?=some (.cells cur t (0,0))) (hn:cs.length=Nat.min sLen dLen*5)
 (hsrc:∀ j v,cs[j]?=some v->w.cell? (a.add j)=some v) (hfit:o+cs.length<=cur.size) (h1:∀ v ∈ cs,v.oneCell'=true) :
 (Builtin.copy_ #[dT,sT] ty #[.slice (some ⟨g,o,none⟩) dLen dCap,.slice (some a) sLen sCap]).run Tryz.prog w =
  .ok (goInt (Nat.min sLen dLen)) (w.setRow g (cur.toList.take o++cs++cur.toList.drop (o+cs.length)).toArray):=by
 have hl:=run_loadCells_list (P:=Tryz.prog) w a cs hsrc;have hst:=run_storeCells_at Tryz.prog g o t cs 0 cur w hg (by simpa using hfit) h1
 cases hq:Tryz.prog.info? elem with
 | none=>simp [hq] at hs
 | some i =>
  have hi:i.size=5:=by simpa [hq] using hs
  simp [Builtin.copy_,run_underlying hu,Builtin.lenOf,Builtin.firstCells,sizeOf,typeInfo,hq,hi,<-hn,hl,hst]
theorem ZeG:∀ fs:List Ar.F,∀ v ∈ fcs fs,v.oneCell'=true
 | [],v,h=>by cases h
 | f :: fs,v,h=>by
  rw [fcs,List.mem_append] at h;rcases h with h | h
  ·exact one5 _ _ _ _ _ v h
  ·exact ZeG fs v h
theorem ZdU:∀ (fs:List Ar.F) (i:Nat),fcs (fs.take i)=(fcs fs).take (i*5)
 | [],i=>by simp [fcs]
 | f :: fs,0=>by simp [fcs]
 | f :: fs,i+1=>by
  rw [List.take_succ_cons,fcs,fcs,ZdU fs i,show (i+1)*5=[Value.string f.name,.int .i64 f.dict,.int .i64 f.size,.int .i64 f.sum,.string f.blk].length+i*5 by simp;omega,List.take_length_add_append]
theorem Zea:∀ (fs:List Ar.F) (i:Nat),fcs (fs.drop i)=(fcs fs).drop (i*5)
 | [],i=>by simp [fcs]
 | f :: fs,0=>by simp [fcs]
 | f :: fs,i+1=>by
  rw [List.drop_succ_cons,fcs,Zea fs i,show (i+1)*5=[Value.string f.name,.int .i64 f.dict,.int .i64 f.size,.int .i64 f.sum,.string f.blk].length+i*5 by simp;omega,List.drop_length_add_append]
theorem Zle {l cs nw:List Value} {m i:Nat} (h1:l.take m=cs) (h2:m+5<=l.length) (h3:i<=m) (h4:nw.length=5) :
 let l1:=l.take (i+5)++cs.drop i++l.drop (i+5+(cs.drop i).length)
 (l1.take i++nw++l1.drop (i+nw.length)).length=l.length/\(l1.take i++nw++l1.drop (i+nw.length)).take (m+5)=cs.take i++nw++cs.drop i:=by
 intro l1;have hc:cs.length=m:=by rw [<-h1,List.length_take];omega
 have e1:l1.take i=cs.take i:=by
  rw [show l1=l.take (i+5)++(cs.drop i++l.drop (i+5+(cs.drop i).length)) from List.append_assoc ..];rw [List.take_append_of_le_length (by rw [List.length_take];omega),List.take_take,<-h1,List.take_take]
  congr 1
  omega
 have e2:l1.drop (i+nw.length)=cs.drop i++l.drop (m+5):=by
  rw [show l1=l.take (i+5)++(cs.drop i++l.drop (i+5+(cs.drop i).length)) from List.append_assoc ..];rw [h4,List.drop_append_of_le_length (by rw [List.length_take];omega),List.drop_of_length_le (by rw [List.length_take];omega),List.nil_append,List.length_drop,hc,show i+5+(m - i)=m+5 by omega]
 rw [e1,e2];constructor
 ·simp only [List.length_append,List.length_take,List.length_drop];omega
 ·rw [<-List.append_assoc,List.take_append_of_le_length (by simp only [List.length_append,List.length_take,List.length_drop];omega),List.take_of_length_le (by simp only [List.length_append,List.length_take,List.length_drop];omega)]
theorem ZlF {cs nw z:List Value} {m i:Nat} (hc:cs.length=m) (h2:m+5<=(cs.take i++z).length) (h3:i<=m) (h4:nw.length=5) :
 let l:=cs.take i++z
 let l1:=l.take i++nw++l.drop (i+nw.length)
 (l1.take (i+5)++cs.drop i++l1.drop (i+5+(cs.drop i).length)).length=l.length/\(l1.take (i+5)++cs.drop i++l1.drop (i+5+(cs.drop i).length)).take (m+5)=cs.take i++nw++cs.drop i:=by
 intro l l1;have hi:(cs.take i).length=i:=by rw [List.length_take];omega
 have e0:l.take i=cs.take i:=by
  show (cs.take i++z).take i=_;rw [List.take_append_of_le_length (by omega),List.take_of_length_le (by omega)]
 have e1:l1.take (i+5)=cs.take i++nw:=by
  show (l.take i++nw++l.drop (i+nw.length)).take (i+5)=_;rw [e0,List.take_append_of_le_length (by simp only [List.length_append];omega),List.take_of_length_le (by simp only [List.length_append];omega)]
 have el:l1.length=l.length:=by
  show (l.take i++nw++l.drop (i+nw.length)).length=_;have:m+5<=l.length:=h2;simp only [List.length_append,List.length_take,List.length_drop];omega
 rw [e1];have hl:m+5<=l.length:=h2;constructor
 ·simp only [List.length_append,List.length_take,List.length_drop];omega
 ·rw [List.take_append_of_le_length (by simp only [List.length_append,List.length_take,List.length_drop];omega),List.take_of_length_le (by simp only [List.length_append,List.length_take,List.length_drop];omega)]
def fc (f:Ar.F):List Value:=[.string f.name,.int .i64 f.dict,.int .i64 f.size,.int .i64 f.sum,.string f.blk]
theorem ZmK (fs:List Ar.F) (f:Ar.F) (i:Nat):fcs (fs.take i++f :: fs.drop i)=(fcs fs).take (i*5)++fc f++(fcs fs).drop (i*5):=by
 rw [Zz,fcs,ZdU,Zea,List.append_assoc];rfl
def Zbe (lo:Nat) (fs:List Ar.F) (v2:Value) (w:World) (e:Ending) (w':World):Prop:=∃ g cap,e=.returned (.slice (some ⟨g,0,none⟩) fs.length cap)/\w'.ownsRow lo 46 5 (.slice (some ⟨g,0,none⟩) fs.length cap) fs.length (fcs fs)/\w.grownBy w' v2.ownBlock/\(v2.ownBlock=some g\/w.heap.size<=g)
theorem ZcW:(Tryz.prog.info? 46).map (·.size)=some 5:=by kernel_rfl
theorem Zss {w:World} {vb:Nat} {cs:List Value} {t:TypeId} (h:w.heap[vb]?=some (.cells cs.toArray t (0,0))):∀ j u,cs[j]?=some u->w.cell? ((⟨vb,0,none⟩:Addr).add j)=some u:=by
 intro j u hj;rw [ZaY];simp only [World.cell?,h];simpa using hj
theorem ZlU (lo:Nat) (fs:List Ar.F) (f:Ar.F) (v2:Value) (vb:Nat) (t:TypeId) (w:World) (hown:w.ownsRow lo 46 5 v2 fs.length (fcs fs)) (hn:fs.length<=12) (hvb:w.heap[vb]?=some (.cells (fc f).toArray t (0,0))) (hlo:lo<=w.heap.size) :
 Calls Tryz.prog 54 #[v2,.int .i64 (fs.length:Nat),.slice (some ⟨vb,0,none⟩) 1 1] w fun e w'=>Zbe lo (fs++[f]) v2 w e w':=by
 obtain ⟨j0,gi,gz0,gz1,gz2⟩:=info_parts (P:=Tryz.prog) (e:=46) (z:=.agg #[.string ⟨#[]⟩,.int .i64 0,.int .i64 0,.int .i64 0,.string ⟨#[]⟩]) (size:=5) (bytes:=56) (by kernel_rfl);have hnews:=Zss hvb
 have HE:Hid (∀ g cap w',w'.ownsRow lo 46 5 (.slice (some ⟨g,0,none⟩) (fs.length+1) cap) (fs.length+1) (fcs fs++fc f)->w.grownBy w' v2.ownBlock->(v2.ownBlock=some g\/g=w.heap.size)->Zbe lo (fs++[f]) v2 w (.returned (.slice (some ⟨g,0,none⟩) (fs.length+1) cap)) w'):=fun g cap w' h1 h2 h3=>by
  refine ⟨g,cap,by rw [List.length_append];rfl,?_,h2,h3.imp id (fun e=>by omega)⟩;rw [List.length_append,Zz];exact h1
 clear hvb;generalize hN:fs.length=N at *;clear hN;rcases hown.2 with ⟨rfl,rfl⟩ | ⟨g,cap,cur,rfl,h2,h3,h4,h5,h6,h7⟩
 ·go_enter Tryz.func54,Tryz.ntmps54
  go_wp2_with (first
   | (at_builtin;refine wpList_append_lies _ rfl _ _ 23 rfl lo 46 j0 (.agg #[.string ⟨#[]⟩,.int .i64 0,.int .i64 0,.int .i64 0,.string ⟨#[]⟩]) 5 56 Tryz.underlying23 gi gz0 gz1 gz2 rfl (by decide) _ _ _ rfl hown ⟨vb,0,none⟩ 1 1 (fc f) rfl rfl hnews (one5 _ _ _ _ _) (by decide) (by unfold maxLen;omega) (by omega) hlo _ rfl ?_;intro g cp w7 hown7 hgrow7 hat7 hlt7;have hfin:=HE.out g cp w7 hown7 hgrow7 hat7;clear hgrow7 hown7 hat7 hlt7)
   | fail)
  go_ret
  exact hfin
 ·have hNi:(N:Int)<=12:=by omega
  have hNc:(N:Int)<=(cap:Int):=by omega
  by_cases hce:cap=N
  ·subst hce;go_enter Tryz.func54,Tryz.ntmps54
   go_wp2_with (first
    | (at_builtin;refine wpList_append_lies _ rfl _ _ 23 rfl lo 46 j0 (.agg #[.string ⟨#[]⟩,.int .i64 0,.int .i64 0,.int .i64 0,.string ⟨#[]⟩]) 5 56 Tryz.underlying23 gi gz0 gz1 gz2 rfl (by decide) _ _ _ rfl hown ⟨vb,0,none⟩ 1 1 (fc f) rfl rfl hnews (one5 _ _ _ _ _) (by decide) (by unfold maxLen;omega) (by omega) hlo _ rfl ?_;intro g cp w7 hown7 hgrow7 hat7 hlt7;have hfin:=HE.out g cp w7 hown7 hgrow7 hat7;clear hgrow7 hown7 hat7 hlt7)
    | fail)
   go_ret
   exact hfin
  ·have hce':¬ (cap:Int)=(N:Int):=by omega
   go_enter Tryz.func54,Tryz.ntmps54
   go_wp2_with (first
    | (at_builtin;refine wpList_append_lies _ rfl _ _ 23 rfl lo 46 j0 (.agg #[.string ⟨#[]⟩,.int .i64 0,.int .i64 0,.int .i64 0,.string ⟨#[]⟩]) 5 56 Tryz.underlying23 gi gz0 gz1 gz2 rfl (by decide) _ _ _ rfl hown ⟨vb,0,none⟩ 1 1 (fc f) rfl rfl hnews (one5 _ _ _ _ _) (by decide) (by unfold maxLen;omega) (by omega) hlo _ rfl ?_;intro g cp w7 hown7 hgrow7 hat7 hlt7;have hfin:=HE.out g cp w7 hown7 hgrow7 hat7;clear hgrow7 hown7 hat7 hlt7)
    | fail)
   go_ret
   exact hfin
theorem ZrD {w:World} {g:Nat} {cur:Array Value} {t:TypeId} (h:w.heap[g]?=some (.cells cur t (0,0))):w.shape? g=some (t,cur.size):=by simp [World.shape?,h]
theorem ZeW {w:World} {g:Nat} {cur:Array Value} {t:TypeId} (h:w.heap[g]?=some (.cells cur t (0,0))) (o:Nat):w.frozen? ⟨g,o,none⟩=false:=by simp [World.frozen?,h]
theorem ZgF {w:World} {g:Nat} {cur:Array Value} {t:TypeId} (h:w.heap[g]?=some (.cells cur t (0,0))) (o:Nat):w.cell? ⟨g,o,none⟩=cur[o]?:=by simp [World.cell?,h]
theorem Zan (w:World) (g:Nat) (a:Array Value):w.grownBy (w.setRow g a) (some g):=by
 refine ⟨rfl,rfl,rfl,by simp,fun k hk hne=>?_⟩;exact setRow_other w g k a (fun e=>hne (by rw [e]))
theorem Zhh (lo:Nat) (fs:List Ar.F) (f:Ar.F) (g cap i:Nat) (cur:Array Value) (vb:Nat) (t:TypeId) (w:World) (hg:w.heap[g]?=some (.cells cur 46 (0,0))) (hlo:lo<=g) (hcap:cap<=maxLen) (hcur:cur.size=cap*5) (htk:cur.toList.take (fs.length*5)=fcs fs)
 (hn:fs.length<=12) (hi:i<fs.length) (hroom:fs.length+1<=cap) (hvb:w.heap[vb]?=some (.cells (fc f).toArray t (0,0))) (hne:vb ≠ g) :
 Calls Tryz.prog 54 #[.slice (some ⟨g,0,none⟩) fs.length cap,.int .i64 (i:Nat),.slice (some ⟨vb,0,none⟩) 1 1] w fun e w'=>Zbe lo (fs.take i++f :: fs.drop i) (.slice (some ⟨g,0,none⟩) fs.length cap) w e w':=by
 have hfl:(fc f).length=5:=rfl;have hcl:(fcs fs).length=fs.length*5:=Zai fs
 have hov:∀ lb cb o,(callFunc 94 #[.slice (some ⟨vb,0,none⟩) 1 1,.slice (some ⟨g,o,none⟩) lb cb]).run Tryz.prog w=.ok (.value (.bool false)) w:=fun lb cb o=>by
  rw [run_callFunc_extern Tryz.func94 (by kernel_rfl) (by kernel_rfl) (by kernel_rfl) (e:=Extern.SlicesOverlaps.overlaps #[23,23] #[4]) (by kernel_rfl),
   Lib.run_overlaps_apart w 23 4 46 Tryz.underlying23 5 Tryz.sizeOf46 ⟨vb,0,none⟩ ⟨g,o,none⟩ 1 1 lb cb hne t 46 5 cur.size (ZrD hvb) (ZrD hg) (by omega) (ZeW hvb 0) (ZeW hvb 5)]
  rfl
 obtain ⟨cur1,hcur1⟩:∃ cur1:Array Value,cur1=(cur.toList.take ((i*5+5))++(fcs fs).drop (i*5)++cur.toList.drop ((i*5+5)+((fcs fs).drop (i*5)).length)).toArray:=⟨_,rfl⟩
 obtain ⟨cur2,hcur2⟩:∃ cur2:Array Value,cur2=(cur1.toList.take (i*5)++fc f++cur1.toList.drop (i*5+(fc f).length)).toArray:=⟨_,rfl⟩
 have hsz5:(fs.length+1)*5<=cur.size:=by rw [hcur];omega
 have h2c:=Zle (l:=cur.toList) (cs:=fcs fs) (nw:=fc f) (m:=fs.length*5) (i:=i*5) htk (by simp;omega) (by omega) hfl;simp only at h2c;have hl1:cur1.toList=cur.toList.take ((i*5+5))++(fcs fs).drop (i*5)++cur.toList.drop ((i*5+5)+((fcs fs).drop (i*5)).length):=by rw [hcur1]
 rw [<-hl1] at h2c;have hl2:cur2.toList=cur1.toList.take (i*5)++fc f++cur1.toList.drop (i*5+(fc f).length):=by rw [hcur2]
 rw [<-hl2] at h2c
 have hs1:cur1.size=cur.size:=by
  rw [<-Array.length_toList,hl1];simp only [List.length_append,List.length_take,List.length_drop,hcl,Array.length_toList];omega
 have hcp1:∀ ty dc sc,(Builtin.copy_ #[23,23] ty #[.slice (some ⟨g,(i+1)*5,none⟩) (fs.length - i) dc,.slice (some ⟨g,i*5,none⟩) (fs.length+1 - i) sc]).run Tryz.prog w.drew=.ok (goInt ((fs.length - i:Nat):Int)) (w.drew.setRow g cur1):=fun ty dc sc=>by
  have hm:Nat.min (fs.length+1 - i) (fs.length - i)=fs.length - i:=by simp only [Nat.min_def];split <;> omega
  have:=ZaN w.drew 23 23 ty 46 g ((i*5+5)) (fs.length - i) dc ⟨g,i*5,none⟩ (fs.length+1 - i) sc cur 46 ((fcs fs).drop (i*5)) Tryz.underlying23 ZcW hg (by rw [hm,List.length_drop,hcl];omega)
   (fun j v hj=>by
    rw [Go.WideShapes.add_plain];show w.cell? ⟨g,i*5+j,none⟩=some v;rw [ZgF hg,<-Array.getElem?_toList];rw [List.getElem?_drop,<-htk,List.getElem?_take] at hj;split at hj
    ·exact hj
    ·cases hj)
   (by rw [List.length_drop,hcl];omega) (fun v hv=>ZeG fs v (List.mem_of_mem_drop hv))
  rw [hm,<-hcur1] at this;rw [show (i+1)*5=i*5+5 by omega];exact this
 have hg1:(w.drew.setRow g cur1).heap[g]?=some (.cells cur1 46 (0,0)):=setRow_heap w.drew g cur cur1 _ _ hg;have hv1:(w.drew.setRow g cur1).heap[vb]?=some (.cells (fc f).toArray t (0,0)):=(setRow_other w.drew g vb cur1 hne).trans hvb
 have hcp2:∀ ty dc,(Builtin.copy_ #[23,23] ty #[.slice (some ⟨g,i*5,none⟩) (fs.length+1 - i) dc,.slice (some ⟨vb,0,none⟩) 1 1]).run Tryz.prog (w.drew.setRow g cur1)=.ok (goInt 1) ((w.drew.setRow g cur1).setRow g cur2):=fun ty dc=>by
  have hm:Nat.min 1 (fs.length+1 - i)=1:=by simp only [Nat.min_def];split <;> omega
  have:=ZaN (w.drew.setRow g cur1) 23 23 ty 46 g (i*5) (fs.length+1 - i) dc ⟨vb,0,none⟩ 1 1 cur1 46 (fc f) Tryz.underlying23 ZcW hg1 (by rw [hm];rfl) (Zss hv1) (by rw [hfl,hs1];omega) (one5 _ _ _ _ _);rw [hm,<-hcur2] at this;exact this
 have hfin:Zbe lo (fs.take i++f :: fs.drop i) (.slice (some ⟨g,0,none⟩) fs.length cap) w (.returned (.slice (some ⟨g,0,none⟩) (fs.length+1) cap)) ((w.drew.setRow g cur1).setRow g cur2):=by
  have hlen:(fs.take i++f :: fs.drop i).length=fs.length+1:=by rw [List.length_append,List.length_cons,List.length_take,List.length_drop];omega
  refine ⟨g,cap,by rw [hlen],?_,?_,.inl rfl⟩
  ·rw [hlen];refine ⟨by rw [Zai,hlen],.inr ⟨g,cap,cur2,rfl,hlo,setRow_heap _ g cur1 cur2 _ _ hg1,hroom,hcap,?_,?_⟩⟩
   ·rw [<-hcur,<-Array.length_toList,h2c.1,Array.length_toList]
   ·rw [show (fs.length+1)*5=fs.length*5+5 by omega,h2c.2,ZmK]
  ·have a1:=Zan w.drew g cur1;have a2:=Zan (w.drew.setRow g cur1) g cur2
   have a0:w.grownBy w.drew (some g):=⟨rfl,rfl,rfl,nl _,fun _ _ _=>rfl⟩
   exact (a0.trans a1).trans a2
 clear hl1 hl2 hcur1 hcur2 h2c htk hcl hcur hsz5 hs1 hg hvb hg1 hv1 hfl;generalize (Zbe lo (fs.take i++f :: fs.drop i) (.slice (some ⟨g,0,none⟩) fs.length cap) w)=Q at *;generalize fs.length=N at *;have hz2:¬ ((i:Int)=(N:Int)):=by omega
 have hz3:¬ (cap:Int)<(N:Int)+1:=by omega
 have hb3:(i:Int)<=(N:Int)+1:=by omega
 have hcN:¬ cap=i:=by omega
 have hcN1:¬ cap=i+1:=by omega
 have hNi:(N:Int)<=12:=by omega
 have hii:(i:Int)<(N:Int):=by omega
 have hcm:(cap:Int)<=9223372036854775807:=by unfold maxLen at hcap;omega
 have hroom':(N:Int)+1<=(cap:Int):=by omega
 have hw1:IntKind.i64.wrap ((i:Int)+1)=(i:Int)+1:=by rw [IntKind.wrap_i64];omega
 have hb1:(0:Int)<=(i:Int)+1:=by omega
 have htn:((i:Int)+1).toNat=i+1:=by omega
 have hin1:(i:Int)+1<=(N:Int)+1:=by omega
 have hin2:i<=N:=by omega
 have hin3:i<=N+1:=by omega
 have hin4:i+1<=N+1:=by omega
 go_enter Tryz.func54,Tryz.ntmps54
 go_wp2_with (simp only [hov])
 go_region_law (refine step_copy_runI rfl _ _ 23 23 rfl _ _ (by simp [Act.eval,Act.put]) (by simp [Act.eval,Act.put]) (hcp1 _ _ _) ?_)
 go_wp2_with (first
  | (at_builtin;refine wpList_copy_runI _ rfl _ _ 23 23 rfl _ _ rfl rfl (hcp2 _ _) ?_)
  | fail)
 exact hfin
theorem ZtC (n:Nat):(Builtin.zeroCells (Value.agg #[.string ⟨#[]⟩,.int .i64 0,.int .i64 0,.int .i64 0,.string ⟨#[]⟩]).cells n).size=n*5:=by
 simp [Builtin.zeroCells,Value.cells]
theorem ZiS (lo:Nat) (fs:List Ar.F) (f:Ar.F) (g i:Nat) (cur:Array Value) (vb:Nat) (t:TypeId) (w:World) (hg:w.heap[g]?=some (.cells cur 46 (0,0))) (hlo:lo<=w.heap.size) (hcur:cur.size=fs.length*5) (htk:cur.toList.take (fs.length*5)=fcs fs)
 (hn:fs.length<=12) (hi:i<fs.length) (hvb:w.heap[vb]?=some (.cells (fc f).toArray t (0,0))) :
 Calls Tryz.prog 54 #[.slice (some ⟨g,0,none⟩) fs.length fs.length,.int .i64 (i:Nat),.slice (some ⟨vb,0,none⟩) 1 1] w fun e w'=>Zbe lo (fs.take i++f :: fs.drop i) (.slice (some ⟨g,0,none⟩) fs.length fs.length) w e w':=by
 obtain ⟨j0,gi,gz0,gz1,gz2⟩:=info_parts (P:=Tryz.prog) (e:=46) (z:=.agg #[.string ⟨#[]⟩,.int .i64 0,.int .i64 0,.int .i64 0,.string ⟨#[]⟩]) (size:=5) (bytes:=56) (by kernel_rfl);have hfl:(fc f).length=5:=rfl;have hcl:(fcs fs).length=fs.length*5:=Zai fs;have hgl:g<w.heap.size:=Array.getElem?_eq_some_iff.mp hg |>.1
 have hvl:vb<w.heap.size:=Array.getElem?_eq_some_iff.mp hvb |>.1
 have hcells:∀ (W:World) (o:Nat),(∀ j,W.cell? ⟨g,j,none⟩=w.cell? ⟨g,j,none⟩)->∀ j v,((fcs fs).drop o)[j]?=some v->W.cell? ((⟨g,o,none⟩:Addr).add j)=some v:=fun W o hW j v hj=>by
  rw [Go.WideShapes.add_plain,hW,ZgF hg,<-Array.getElem?_toList];rw [List.getElem?_drop,<-htk,List.getElem?_take] at hj;split at hj
  ·exact hj
  ·cases hj
 have hkk:(fs.length:Int)+1 - (i:Int)=((fs.length+1 - i:Nat):Int):=by omega
 have hik:i+(fs.length+1 - i)=fs.length+1:=by omega
 obtain ⟨G,hG⟩:∃ G,G=grownCap w (fs.length+1) fs.length 46:=⟨_,rfl⟩
 obtain ⟨Z,hZ⟩:∃ Z:List Value,Z=(Builtin.zeroCells (Value.agg #[.string ⟨#[]⟩,.int .i64 0,.int .i64 0,.int .i64 0,.string ⟨#[]⟩]).cells (fs.length+1 - i)++Builtin.zeroCells (Value.agg #[.string ⟨#[]⟩,.int .i64 0,.int .i64 0,.int .i64 0,.string ⟨#[]⟩]).cells (G - (fs.length+1))).toList:=⟨_,rfl⟩
 obtain ⟨ROW,hROW⟩:∃ ROW:Array Value,ROW=((fcs fs).take (i*5)).toArray++Builtin.zeroCells (Value.agg #[.string ⟨#[]⟩,.int .i64 0,.int .i64 0,.int .i64 0,.string ⟨#[]⟩]).cells (fs.length+1 - i)++Builtin.zeroCells (Value.agg #[.string ⟨#[]⟩,.int .i64 0,.int .i64 0,.int .i64 0,.string ⟨#[]⟩]).cells (G - (fs.length+1)):=⟨_,rfl⟩
 have hRl:ROW.toList=(fcs fs).take (i*5)++Z:=by rw [hROW,hZ];simp
 have hGn:fs.length+1<=G:=by rw [hG];exact grownCap_ge w _ _ _
 have hGm:G<=maxLen:=by rw [hG];exact grownCap_le_maxLen w _ _ _ (by unfold maxLen;omega)
 have hRs:ROW.size=G*5:=by
  rw [hROW];simp only [Array.size_append,ZtC,List.size_toArray,List.length_take,hcl];omega
 have hrz:∀ ty,(Builtin.append_ #[23,3] ty #[.slice (some ⟨g,0,none⟩) i fs.length,.int .i64 ((fs.length:Int)+1 - (i:Int))]).run Tryz.prog w =
  .ok (.slice (some ⟨w.heap.size,0,none⟩) (fs.length+1) G) (w.drew.alloc (.cells ROW 46)):=fun ty=>by
  have hold:(Builtin.firstCells j0.size i (.slice (some ⟨g,0,none⟩) i fs.length)).run Tryz.prog w.drew=.ok ((fcs fs).take (i*5)).toArray w.drew:=by
   rw [gz1]
   exact run_firstCells_some w.drew 5 i ⟨g,0,none⟩ i fs.length ((fcs fs).take (i*5)) (by rw [List.length_take,hcl];omega) (fun j v hj=>by
    rw [List.getElem?_take] at hj;split at hj
    ·exact hcells w.drew 0 (fun _=>rfl) j v hj
    ·cases hj)
  have h:=Lib.run_append_grow_zeros w 23 3 ty 46 j0 _ .i64 .i64 Tryz.underlying23 Tryz.underlying3 gi gz0 (some ⟨g,0,none⟩) i fs.length ((fcs fs).take (i*5)) hold (fs.length+1 - i) (by omega) (by omega) (by omega) (by omega) (by rw [gz2];omega) (by rw [gz2,hik];exact growslice_fits (by omega) (by omega));rw [hik,<-hG,<-hROW] at h;rw [hkk];exact h
 obtain ⟨cur1,hcur1⟩:∃ cur1:Array Value,cur1=(ROW.toList.take (i*5)++fc f++ROW.toList.drop (i*5+(fc f).length)).toArray:=⟨_,rfl⟩
 obtain ⟨cur2,hcur2⟩:∃ cur2:Array Value,cur2=(cur1.toList.take (i*5+5)++(fcs fs).drop (i*5)++cur1.toList.drop (i*5+5+((fcs fs).drop (i*5)).length)).toArray:=⟨_,rfl⟩
 have hRL:ROW.toList.length=G*5:=by rw [Array.length_toList,hRs]
 have h2c:=ZlF (cs:=fcs fs) (nw:=fc f) (z:=Z) (m:=fs.length*5) (i:=i*5) hcl (by rw [<-hRl];omega) (by omega) hfl;simp only at h2c;rw [<-hRl] at h2c;have hl1:cur1.toList=ROW.toList.take (i*5)++fc f++ROW.toList.drop (i*5+(fc f).length):=by rw [hcur1]
 rw [<-hl1] at h2c;have hl2:cur2.toList=cur1.toList.take (i*5+5)++(fcs fs).drop (i*5)++cur1.toList.drop (i*5+5+((fcs fs).drop (i*5)).length):=by rw [hcur2]
 rw [<-hl2] at h2c
 have hs1:cur1.size=G*5:=by
  rw [<-Array.length_toList,hl1];simp only [List.length_append,List.length_take,List.length_drop,Array.length_toList,hRs,hfl];omega
 obtain ⟨W1,hW1⟩:∃ W1,W1=(w.alloc (.cells ROW 46)).drew:=⟨_,rfl⟩
 have hg1:W1.heap[w.heap.size]?=some (.cells ROW 46 (0,0)):=by
  rw [hW1];show (w.heap.push _)[w.heap.size]?=_;rw [Array.getElem?_push_size]
 have hother:∀ k,k<w.heap.size->W1.heap[k]?=w.heap[k]?:=fun k hk=>by
  rw [hW1];show (w.heap.push _)[k]?=_;rw [Array.getElem?_push,if_neg (by omega)]
 have hv1:W1.heap[vb]?=some (.cells (fc f).toArray t (0,0)):=(hother vb hvl).trans hvb
 have hcp1:∀ ty dc,(Builtin.copy_ #[23,23] ty #[.slice (some ⟨w.heap.size,i*5,none⟩) (fs.length+1 - i) dc,.slice (some ⟨vb,0,none⟩) 1 1]).run Tryz.prog W1=.ok (goInt 1) (W1.setRow w.heap.size cur1):=fun ty dc=>by
  have hm:Nat.min 1 (fs.length+1 - i)=1:=by simp only [Nat.min_def];split <;> omega
  have:=ZaN W1 23 23 ty 46 w.heap.size (i*5) (fs.length+1 - i) dc ⟨vb,0,none⟩ 1 1 ROW 46 (fc f) Tryz.underlying23 ZcW hg1 (by rw [hm];rfl) (Zss hv1) (by rw [hfl,hRs];omega) (one5 _ _ _ _ _);rw [hm,<-hcur1] at this;exact this
 obtain ⟨W2,hW2⟩:∃ W2,W2=(W1.setRow w.heap.size cur1).drew:=⟨_,rfl⟩
 have hg2:W2.heap[w.heap.size]?=some (.cells cur1 46 (0,0)):=by rw [hW2];exact setRow_heap W1 w.heap.size ROW cur1 _ _ hg1
 have hgg2:W2.heap[g]?=w.heap[g]?:=by rw [hW2];exact (setRow_other W1 w.heap.size g cur1 (by omega)).trans (hother g hgl)
 have hcp2:∀ ty dc sc,(Builtin.copy_ #[23,23] ty #[.slice (some ⟨w.heap.size,(i+1)*5,none⟩) (fs.length - i) dc,.slice (some ⟨g,i*5,none⟩) (fs.length - i) sc]).run Tryz.prog W2=.ok (goInt ((fs.length - i:Nat):Int)) (W2.setRow w.heap.size cur2):=fun ty dc sc=>by
  have hm:Nat.min (fs.length - i) (fs.length - i)=fs.length - i:=by simp only [Nat.min_def];split <;> omega
  have:=ZaN W2 23 23 ty 46 w.heap.size (i*5+5) (fs.length - i) dc ⟨g,i*5,none⟩ (fs.length - i) sc cur1 46 ((fcs fs).drop (i*5)) Tryz.underlying23 ZcW hg2 (by rw [hm,List.length_drop,hcl];omega)
   (hcells W2 (i*5) (fun j=>by rw [ZgF (hgg2.trans hg),ZgF hg]))
   (by rw [List.length_drop,hcl,hs1];omega) (fun v hv=>ZeG fs v (List.mem_of_mem_drop hv))
  rw [hm,<-hcur2] at this;rw [show (i+1)*5=i*5+5 by omega];exact this
 have hfin:Zbe lo (fs.take i++f :: fs.drop i) (.slice (some ⟨g,0,none⟩) fs.length fs.length) w (.returned (.slice (some ⟨w.heap.size,0,none⟩) (fs.length+1) G)) (W2.setRow w.heap.size cur2):=by
  have hlen:(fs.take i++f :: fs.drop i).length=fs.length+1:=by rw [List.length_append,List.length_cons,List.length_take,List.length_drop];omega
  refine ⟨w.heap.size,G,by rw [hlen],?_,?_,.inr (nl _)⟩
  ·rw [hlen];refine ⟨by rw [Zai,hlen],.inr ⟨w.heap.size,G,cur2,rfl,hlo,setRow_heap _ _ cur1 cur2 _ _ hg2,hGn,hGm,?_,?_⟩⟩
   ·rw [<-hRs,<-Array.length_toList,h2c.1,Array.length_toList]
   ·rw [show (fs.length+1)*5=fs.length*5+5 by omega,h2c.2,ZmK]
  ·refine ⟨by rw [hW2,hW1];rfl,by rw [hW2,hW1];rfl,by rw [hW2,hW1];rfl,?_,fun k hk hne=>?_⟩
   ·rw [hW2,hW1];refine Nat.le_trans ?_ ((Zan _ _ _).4);refine Nat.le_trans ?_ ((Zan (w.alloc (.cells ROW 46)).drew w.heap.size cur1).4);show w.heap.size<=(w.heap.push _).size;rw [Array.size_push];omega
   ·rw [setRow_other W2 w.heap.size k cur2 (by omega),hW2];exact (setRow_other W1 w.heap.size k cur1 (by omega)).trans (hother k hk)
 subst hW2;subst hW1;have hneg:g ≠ w.heap.size:=by omega
 clear hl1 hl2 hcur1 hcur2 h2c htk hcl hcur hs1 hg hvb hg1 hv1 hfl hcells hother hg2 hgg2 hRs hRl hRL hZ hROW hG hkk hik;generalize (Zbe lo (fs.take i++f :: fs.drop i) (.slice (some ⟨g,0,none⟩) fs.length fs.length) w)=Q at *;generalize fs.length=N at *;have hz2:¬ ((i:Int)=(N:Int)):=by omega
 have hz3:(N:Int)<(N:Int)+1:=by omega
 have hb3:(i:Int)<=(N:Int):=by omega
 have hcN:¬ N=i:=by omega
 have hGi:¬ G=i:=by omega
 have hGi1:¬ G=i+1:=by omega
 have hNi:(N:Int)<=12:=by omega
 have hii:(i:Int)<(N:Int):=by omega
 have hcm:(G:Int)<=9223372036854775807:=by unfold maxLen at hGm;omega
 have hGn':(N:Int)+1<=(G:Int):=by omega
 have hw1:IntKind.i64.wrap ((i:Int)+1)=(i:Int)+1:=by rw [IntKind.wrap_i64];omega
 have hb1:(0:Int)<=(i:Int)+1:=by omega
 have htn:((i:Int)+1).toNat=i+1:=by omega
 have hin1:(i:Int)+1<=(N:Int)+1:=by omega
 have hin2:i<=N:=by omega
 have hin3:i<=N+1:=by omega
 have hin4:i+1<=N+1:=by omega
 go_enter Tryz.func54,Tryz.ntmps54
 go_wp2_with (first
  | (at_builtin;refine Lib.wpList_append_run _ rfl _ _ _ _ rfl _ _ rfl rfl _ _ (hrz _) ?_)
  | (at_builtin;refine wpList_copy_runI _ rfl _ _ 23 23 rfl _ _ rfl rfl (hcp1 _ _) ?_)
  | (at_builtin;refine wpList_copy_runI _ rfl _ _ 23 23 rfl _ _ rfl rfl (hcp2 _ _ _) ?_)
  | fail)
 go_region_law (refine step_copy_runI rfl _ _ 23 23 rfl _ _ (by simp [Act.eval,Act.put]) (by simp [Act.eval,Act.put]) (hcp2 _ _ _) ?_)
 go_wp2
 exact hfin
theorem ZkE (lo:Nat) (fs:List Ar.F) (f:Ar.F) (v2:Value) (i vb:Nat) (t:TypeId) (w:World) (hown:w.ownsRow lo 46 5 v2 fs.length (fcs fs)) (hn:fs.length<=12) (hi:i<=fs.length) (hvb:w.heap[vb]?=some (.cells (fc f).toArray t (0,0))) (hne:v2.ownBlock ≠ some vb) (hlo:lo<=w.heap.size) :
 Calls Tryz.prog 54 #[v2,.int .i64 (i:Nat),.slice (some ⟨vb,0,none⟩) 1 1] w fun e w'=>Zbe lo (fs.take i++f :: fs.drop i) v2 w e w':=by
 by_cases he:i=fs.length
 ·subst he;rw [List.take_of_length_le (nl _),List.drop_of_length_le (nl _)];exact ZlU lo fs f v2 vb t w hown hn hvb hlo
 ·rcases hown.2 with ⟨rfl,h0⟩ | ⟨g,cap,cur,rfl,h2,h3,h4,h5,h6,h7⟩
  ·omega
  ·by_cases hr:fs.length+1<=cap
   ·exact Zhh lo fs f g cap i cur vb t w h3 h2 h5 h6 h7 hn (by omega) hr hvb (fun e=>hne (by rw [e];rfl))
   ·obtain rfl:cap=fs.length:=by omega
    exact ZiS lo fs f g i cur vb t w h3 hlo h6 h7 hn (by omega) hvb
def ArSaid (w:World) (a:Ar.A) (E:Int) (e:Ending) (w':World):Prop:=∃ v1 v2,e=.returned (.tuple #[.agg #[v1,v2],.int .i64 E])/\ArOwn w.heap.size w' v1 v2 a/\Below w.heap.size w w'
theorem ZiH (lo:Nat) (w:World):ArOwn lo w (.slice none 0 0) (.slice none 0 0) Ar.az:=⟨⟨rfl,.inl ⟨rfl,rfl⟩⟩,⟨rfl,.inl ⟨rfl,rfl⟩⟩,fun j hj=>by simp [Value.ownBlock] at hj⟩
theorem Zy {w w':World} {E:Int} (h:Below w.heap.size w w'):ArSaid w Ar.az E (.returned (.tuple #[.agg #[.slice none 0 0,.slice none 0 0],.int .i64 E])) w':=⟨_,_,rfl,ZiH _ _,h⟩
structure Fr (w w':World) (x y:Value):Prop where
 b:Below w.heap.size w w'
 a0:w'.cell? ⟨w.heap.size,0,none⟩=some x
 a1:w'.cell? ⟨w.heap.size,1,none⟩=some y
 r0:w'.cell? ⟨w.heap.size+1,0,none⟩=some (.slice none 0 0)
 r1:w'.cell? ⟨w.heap.size+1,1,none⟩=some (.slice none 0 0)
 z0:w'.frozen? ⟨w.heap.size+1,0,none⟩=false
 z1:w'.frozen? ⟨w.heap.size+1,1,none⟩=false
 hz:w.heap.size+1<w'.heap.size
theorem Fr.next {w w' w2:World} {x y:Value} (h:Fr w w' x y) (G:Below w'.heap.size w' w2):Fr w w2 x y:=by
 have h1:w.heap.size<w'.heap.size:=by have:=h.hz;omega
 exact ⟨bch h.b G (nl _),(G.cell (p:=⟨w.heap.size,0,none⟩) h1).trans h.a0,(G.cell (p:=⟨w.heap.size,1,none⟩) h1).trans h.a1,(G.cell (p:=⟨w.heap.size+1,0,none⟩) h.hz).trans h.r0,(G.cell (p:=⟨w.heap.size+1,1,none⟩) h.hz).trans h.r1,
  (G.frozen (p:=⟨w.heap.size+1,0,none⟩) h.hz).trans h.z0,(G.frozen (p:=⟨w.heap.size+1,1,none⟩) h.hz).trans h.z1,nT h.hz G.size⟩
theorem Fr.start (w:World) (x y:Value):Fr w ((w.alloc (.cells #[x,y] 25 (0,0))).alloc (.cells #[.slice none 0 0,.slice none 0 0] 25 (0,0))) x y:=by
 obtain ⟨k1,k2⟩:=box2 w #[x,y] #[.slice none 0 0,.slice none 0 0] 25 25;refine ⟨((Below.refl _ _).alloc (Nat.le_refl _) _).alloc (by simp) _,k1 0,k1 1,k2 0,k2 1,?_,?_,by simp⟩
 ·exact World.frozen?_alloc_at _ _ _ _ (by simp)
 ·exact World.frozen?_alloc_at _ _ _ _ (by simp)
theorem Fr.zero {w w':World} {x y:Value} (h:Fr w w' x y):(w'.setCell ⟨w.heap.size+1,0,none⟩ (.slice none 0 0)).setCell ⟨w.heap.size+1,1,none⟩ (.slice none 0 0)=w':=by
 rw [ZR h.r0,ZR h.r1]
theorem Zsx (ad af:Option Addr) (cd cf:Nat) (a:Ar.A) (name text:ByteArray) (dict:Int) (w:World) (h:ArV w ad af a) (hs:SaneA a) (hc:Ar.chk a ≠ 0) :
 Calls Tryz.prog 13 #[av ad cd af cf a,.string name,.string text,.int .i64 dict] w fun e w'=>ArSaid w Ar.az (Ar.chk a) e w':=by
 have C1:Hid (∀ w',Below w.heap.size w w'->Calls Tryz.prog 18 #[av ad cd af cf a] w' fun e w2=>e=.returned (.int .i64 (Ar.chk a))/\Below w'.heap.size w' w2):=fun w' h9=>Zx ad af cd cf a w' (h.below h9) hs
 have hQ:Hid (∀ w',Below w.heap.size w w'->ArSaid w Ar.az (Ar.chk a) (.returned (.tuple #[.agg #[.slice none 0 0,.slice none 0 0],.int .i64 (Ar.chk a)])) w'):=fun w' h9=>Zy h9
 generalize ArSaid w Ar.az (Ar.chk a)=Q at *;unfold av at C1 |-
 generalize Ar.chk a=E at *;generalize a.dicts.length=D at *;generalize a.files.length=N at *;have e1:(E != 0)=true:=by simpa using hc
 have e2:(E == 0)=false:=by simpa using hc
 clear h hs;go_enter Tryz.func13,Tryz.ntmps13
 go_wp2_with fail
 refine (C1.out _ (Fr.start w _ _).b).mono ?_;rintro e w1 ⟨rfl,G1⟩;have F1:=(Fr.start w _ _).next G1;clear G1;obtain ⟨b,a0,a1,r0,r1,z0,z1,hz⟩:=id F1;go_wp2_with fail
 rw [F1.zero];exact bodyPost_ret (v:=.tuple #[.agg #[.slice none 0 0,.slice none 0 0],.int .i64 E]) (by simp [results,Tryz.results13,go_sem,F1.r0,F1.r1]) rfl (hQ.out _ F1.b)
theorem ZtP (ad af:Option Addr) (cd cf:Nat) (a:Ar.A) (name text:ByteArray) (dict:Int) (w:World) (h:ArV w ad af a) (hs:SaneA a) (hn:name.size<=140737488355328) (hc:Ar.chk a=0) (hm:Ar.isNm name=false) :
 Calls Tryz.prog 13 #[av ad cd af cf a,.string name,.string text,.int .i64 dict] w fun e w'=>ArSaid w Ar.az 4 e w':=by
 have C1:Hid (∀ w',Below w.heap.size w w'->Calls Tryz.prog 18 #[av ad cd af cf a] w' fun e w2=>e=.returned (.int .i64 (Ar.chk a))/\Below w'.heap.size w' w2):=fun w' h9=>Zx ad af cd cf a w' (h.below h9) hs
 have C2:Hid (∀ w',Calls Tryz.prog 49 #[.string name] w' fun e w2=>e=.returned (.bool (Ar.isNm name))/\w2=w'):=fun w'=>Zaw name w' hn
 have hQ:Hid (∀ w',Below w.heap.size w w'->ArSaid w Ar.az 4 (.returned (.tuple #[.agg #[.slice none 0 0,.slice none 0 0],.int .i64 4])) w'):=fun w' h9=>Zy h9
 generalize ArSaid w Ar.az 4=Q at *;rw [hc] at C1;rw [hm] at C2;unfold av at C1 |-
 generalize a.dicts.length=D at *;generalize a.files.length=N at *;clear h hs hn hc hm;go_enter Tryz.func13,Tryz.ntmps13
 go_wp2_with fail
 refine (C1.out _ (Fr.start w _ _).b).mono ?_;rintro e w1 ⟨rfl,G1⟩;have F1:=(Fr.start w _ _).next G1;clear G1;obtain ⟨b,a0,a1,r0,r1,z0,z1,hz⟩:=id F1;go_wp2_with fail
 refine (C2.out _).mono ?_;rintro e w2 ⟨rfl,rfl⟩;go_wp2_with fail
 rw [F1.zero];exact bodyPost_ret (v:=.tuple #[.agg #[.slice none 0 0,.slice none 0 0],.int .i64 4]) (by simp [results,Tryz.results13,go_sem,F1.r0,F1.r1]) rfl (hQ.out _ F1.b)
theorem Zpv (ad af:Option Addr) (cd cf:Nat) (a:Ar.A) (name text:ByteArray) (dict:Int) (w:World) (h:ArV w ad af a) (hs:SaneA a) (hn:name.size<=140737488355328) (hc:Ar.chk a=0) (hm:Ar.isNm name=true) (hd:Ar.has a.dicts dict=false) :
 Calls Tryz.prog 13 #[av ad cd af cf a,.string name,.string text,.int .i64 dict] w fun e w'=>ArSaid w Ar.az 3 e w':=by
 have C1:Hid (∀ w',Below w.heap.size w w'->Calls Tryz.prog 18 #[av ad cd af cf a] w' fun e w2=>e=.returned (.int .i64 (Ar.chk a))/\Below w'.heap.size w' w2):=fun w' h9=>Zx ad af cd cf a w' (h.below h9) hs
 have C2:Hid (∀ w',Calls Tryz.prog 49 #[.string name] w' fun e w2=>e=.returned (.bool (Ar.isNm name))/\w2=w'):=fun w'=>Zaw name w' hn
 have C3:Hid (∀ w',Calls Tryz.prog 50 #[av ad cd af cf a,.int .i64 dict] w' fun e w2=>e=.returned (.bool (Ar.has a.dicts dict))/\Below w'.heap.size w' w2):=fun w'=>Zaz ad af cd cf a dict w' hs.nd
 have hQ:Hid (∀ w',Below w.heap.size w w'->ArSaid w Ar.az 3 (.returned (.tuple #[.agg #[.slice none 0 0,.slice none 0 0],.int .i64 3])) w'):=fun w' h9=>Zy h9
 generalize ArSaid w Ar.az 3=Q at *;rw [hc] at C1;rw [hm] at C2;rw [hd] at C3;unfold av at C1 C3 |-
 generalize a.dicts.length=D at *;generalize a.files.length=N at *;clear h hs hn hc hm hd;go_enter Tryz.func13,Tryz.ntmps13
 go_wp2_with fail
 refine (C1.out _ (Fr.start w _ _).b).mono ?_;rintro e w1 ⟨rfl,G1⟩;have F1:=(Fr.start w _ _).next G1;clear G1;obtain ⟨b,a0,a1,r0,r1,z0,z1,hz⟩:=id F1;go_wp2_with fail
 refine (C2.out _).mono ?_;rintro e w2 ⟨rfl,rfl⟩;go_wp2_with fail
 refine (C3.out _).mono ?_;rintro e w3 ⟨rfl,G3⟩;clear b a0 a1 r0 r1 z0 z1 hz;have F3:=F1.next G3;clear G3;obtain ⟨b,a0,a1,r0,r1,z0,z1,hz⟩:=id F3;go_wp2_with fail
 rw [F3.zero];exact bodyPost_ret (v:=.tuple #[.agg #[.slice none 0 0,.slice none 0 0],.int .i64 3]) (by simp [results,Tryz.results13,go_sem,F3.r0,F3.r1]) rfl (hQ.out _ F3.b)
theorem ZpL (ad af:Option Addr) (cd cf:Nat) (a:Ar.A) (name text:ByteArray) (dict:Int) (w:World) (h:ArV w ad af a) (hs:SaneA a) (hn:name.size<=140737488355328) (ht:text.size<=140737488355328) (hc:Ar.chk a=0) (hm:Ar.isNm name=true) (hd:Ar.has a.dicts dict=true) (hl:512<text.size) :
 Calls Tryz.prog 13 #[av ad cd af cf a,.string name,.string text,.int .i64 dict] w fun e w'=>ArSaid w Ar.az 2 e w':=by
 have C1:Hid (∀ w',Below w.heap.size w w'->Calls Tryz.prog 18 #[av ad cd af cf a] w' fun e w2=>e=.returned (.int .i64 (Ar.chk a))/\Below w'.heap.size w' w2):=fun w' h9=>Zx ad af cd cf a w' (h.below h9) hs
 have C2:Hid (∀ w',Calls Tryz.prog 49 #[.string name] w' fun e w2=>e=.returned (.bool (Ar.isNm name))/\w2=w'):=fun w'=>Zaw name w' hn
 have C3:Hid (∀ w',Calls Tryz.prog 50 #[av ad cd af cf a,.int .i64 dict] w' fun e w2=>e=.returned (.bool (Ar.has a.dicts dict))/\Below w'.heap.size w' w2):=fun w'=>Zaz ad af cd cf a dict w' hs.nd
 have hsr:=Ar.Zbc hc;obtain ⟨m1,m2,m3⟩:=Ar.Zw.1 (Ar.Zd.1 hc).1;have C4:Hid (∀ w',Below w.heap.size w w'->Calls Tryz.prog 51 #[av ad cd af cf a,.string name] w' fun e w2=>e=.returned (.tuple #[.int .i64 (Ar.pos a.files name:Nat),.bool (Ar.ZL a.files name)])/\Below w'.heap.size w' w2):=fun w' h9=>ZbV ad af cd cf a name w' (h.fs.below h9) (by omega) hsr
 have hQ:Hid (∀ w',Below w.heap.size w w'->ArSaid w Ar.az 2 (.returned (.tuple #[.agg #[.slice none 0 0,.slice none 0 0],.int .i64 2])) w'):=fun w' h9=>Zy h9
 generalize ArSaid w Ar.az 2=Q at *;rw [hc] at C1;rw [hm] at C2;rw [hd] at C3;have hp:=Ar.ZbN a.files name;generalize Ar.pos a.files name=p at *;generalize Ar.ZL a.files name=T at *;unfold av at C1 C3 C4 |-
 clear h hs hn hc hm hd hsr m3;generalize a.dicts.length=D at *;generalize a.files.length=N at *;have hl':(512:Int)<(text.size:Int):=by omega
 have d1:decide ((512:Int)<(text.size:Int))=true:=zdT hl';go_enter Tryz.func13,Tryz.ntmps13
 go_wp2_with fail
 refine (C1.out _ (Fr.start w _ _).b).mono ?_;rintro e w1 ⟨rfl,G1⟩;have F1:=(Fr.start w _ _).next G1;clear G1;obtain ⟨b,a0,a1,r0,r1,z0,z1,hz⟩:=id F1;go_wp2_with fail
 refine (C2.out _).mono ?_;rintro e w2 ⟨rfl,rfl⟩;go_wp2_with fail
 refine (C3.out _).mono ?_;rintro e w3 ⟨rfl,G3⟩;clear b a0 a1 r0 r1 z0 z1 hz;have F3:=F1.next G3;clear G3;obtain ⟨b,a0,a1,r0,r1,z0,z1,hz⟩:=id F3;go_wp2_with fail
 refine (C4.out _ F3.b).mono ?_;rintro e w4 ⟨rfl,G4⟩;clear b a0 a1 r0 r1 z0 z1 hz;have F4:=F3.next G4;clear G4;obtain ⟨b,a0,a1,r0,r1,z0,z1,hz⟩:=id F4;go_wp2_with fail
 rw [F4.zero];exact bodyPost_ret (v:=.tuple #[.agg #[.slice none 0 0,.slice none 0 0],.int .i64 2]) (by simp [results,Tryz.results13,go_sem,F4.r0,F4.r1]) rfl (hQ.out _ F4.b)
theorem Zpm (ad af:Option Addr) (cd cf:Nat) (a:Ar.A) (name text:ByteArray) (dict:Int) (w:World) (h:ArV w ad af a) (hs:SaneA a) (hn:name.size<=140737488355328) (hc:Ar.chk a=0) (hm:Ar.isNm name=true) (hd:Ar.has a.dicts dict=true) (hl:text.size<=512) (hT:Ar.ZL a.files name=false) (hF:a.files.length=12) :
 Calls Tryz.prog 13 #[av ad cd af cf a,.string name,.string text,.int .i64 dict] w fun e w'=>ArSaid w Ar.az 2 e w':=by
 have C1:Hid (∀ w',Below w.heap.size w w'->Calls Tryz.prog 18 #[av ad cd af cf a] w' fun e w2=>e=.returned (.int .i64 (Ar.chk a))/\Below w'.heap.size w' w2):=fun w' h9=>Zx ad af cd cf a w' (h.below h9) hs
 have C2:Hid (∀ w',Calls Tryz.prog 49 #[.string name] w' fun e w2=>e=.returned (.bool (Ar.isNm name))/\w2=w'):=fun w'=>Zaw name w' hn
 have C3:Hid (∀ w',Calls Tryz.prog 50 #[av ad cd af cf a,.int .i64 dict] w' fun e w2=>e=.returned (.bool (Ar.has a.dicts dict))/\Below w'.heap.size w' w2):=fun w'=>Zaz ad af cd cf a dict w' hs.nd
 have hsr:=Ar.Zbc hc;obtain ⟨m1,m2,m3⟩:=Ar.Zw.1 (Ar.Zd.1 hc).1;have C4:Hid (∀ w',Below w.heap.size w w'->Calls Tryz.prog 51 #[av ad cd af cf a,.string name] w' fun e w2=>e=.returned (.tuple #[.int .i64 (Ar.pos a.files name:Nat),.bool (Ar.ZL a.files name)])/\Below w'.heap.size w' w2):=fun w' h9=>ZbV ad af cd cf a name w' (h.fs.below h9) (by omega) hsr
 have hQ:Hid (∀ w',Below w.heap.size w w'->ArSaid w Ar.az 2 (.returned (.tuple #[.agg #[.slice none 0 0,.slice none 0 0],.int .i64 2])) w'):=fun w' h9=>Zy h9
 generalize ArSaid w Ar.az 2=Q at *;rw [hc] at C1;rw [hm] at C2;rw [hd] at C3;rw [hT] at C4;have hp:=Ar.ZbN a.files name;generalize Ar.pos a.files name=p at *;unfold av at C1 C3 C4 |-
 clear h hs hn hc hm hd hsr m3 hT;rw [hF] at C1 C3 C4 |-
 generalize a.dicts.length=D at *;have hl':¬ (512:Int)<(text.size:Int):=by omega
 have d1:decide ((512:Int)<(text.size:Int))=false:=dF hl';go_enter Tryz.func13,Tryz.ntmps13
 go_wp2_with fail
 refine (C1.out _ (Fr.start w _ _).b).mono ?_;rintro e w1 ⟨rfl,G1⟩;have F1:=(Fr.start w _ _).next G1;clear G1;obtain ⟨b,a0,a1,r0,r1,z0,z1,hz⟩:=id F1;go_wp2_with fail
 refine (C2.out _).mono ?_;rintro e w2 ⟨rfl,rfl⟩;go_wp2_with fail
 refine (C3.out _).mono ?_;rintro e w3 ⟨rfl,G3⟩;clear b a0 a1 r0 r1 z0 z1 hz;have F3:=F1.next G3;clear G3;obtain ⟨b,a0,a1,r0,r1,z0,z1,hz⟩:=id F3;go_wp2_with fail
 refine (C4.out _ F3.b).mono ?_;rintro e w4 ⟨rfl,G4⟩;clear b a0 a1 r0 r1 z0 z1 hz;have F4:=F3.next G4;clear G4;obtain ⟨b,a0,a1,r0,r1,z0,z1,hz⟩:=id F4;go_wp2_with fail
 rw [F4.zero];exact bodyPost_ret (v:=.tuple #[.agg #[.slice none 0 0,.slice none 0 0],.int .i64 2]) (by simp [results,Tryz.results13,go_sem,F4.r0,F4.r1]) rfl (hQ.out _ F4.b)
end Go.Proofs.YtbjbjbpgmojcbabGreat
