/- A part of the proof: what it leans on. -/
import Derived.Lib.AppendZerosOnto
import Derived.Lib.Overlaps
import Derived.Lib.SliceRun
import Derived.Shelf.Spec.SlicesInsert
import Derived.Laws.CopyRow
import Derived.Laws.NewBlocks
import Derived.Test.YtbjbjbpgmojcbacGreatDoorDk10
set_option maxRecDepth 8000
set_option maxHeartbeats 8000000
namespace Go.Proofs.YtbjbjbpgmojcbacGreatDoor
open Ar Bk Cd Dk Im Tk Tr Vy
open Tryz
variable{f:Ar.F}{cur:Array Value}{s:ByteArray}{fs:List Ar.F}{l nw xs:List Value}{b g i k m n o p:Nat}{e t:TypeId}{v x y:Value}{a w w':World}
open Go.RowKit
def PN:List PanicEntry:=[{ v:=.iface 22 (.int .i64 1),recovered:=false }]
structure cR(w:World)(p:Nat)(s:ByteArray):Prop where
 c:w.cell? ⟨p,0,none⟩=some (.string s)
 f:w.frozen? ⟨p,0,none⟩=false
theorem cR.lt(h:cR w p s):p<w.heap.size:=World.block_lt_of_cell? w _ h.c
theorem cR.below(h:cR w p s)(G:ae w w'):cR w' p s:=⟨(G.cell (p:=⟨p,0,none⟩) h.lt).trans h.c,(G.frozen (p:=⟨p,0,none⟩) h.lt).trans h.f⟩
theorem cR.set(h:cR w p s)(r:ByteArray):cR (w.setCell ⟨p,0,none⟩ (.string r)) p r:=⟨World.cell?_setCell_same _ _ _ h.c,by rw[World.frozen?_setCell];exact h.f⟩
def On(p:Nat)(w w':World):Prop:=w.grownBy w' (some p)
theorem On.refl(p:Nat)(w:World):On p w w:=⟨rfl,rfl,rfl,Nat.le_refl _,λ_ _ _=>rfl⟩
theorem On.of(G:ae w w'):On p w w':=⟨G.os,G.tape,G.output,G.size,λk hk _=>G.block k hk⟩
theorem On.trans{b c:World}(h:On p a b)(g:On p b c):On p a c:=⟨g.os.trans h.os,g.tape.trans h.tape,g.output.trans h.output,Nat.le_trans h.size g.size,λk hk hne=>(g.block k (Nat.lt_of_lt_of_le hk h.size) hne).trans (h.block k hk hne)⟩
theorem On.set(h:On p w w')(v:Value):On p w (w'.setCell ⟨p,0,none⟩ v):=h.trans (Ze w' ⟨p,0,none⟩ v)
def Zp{α:Type}(r:Option (α×ByteArray))(val:α->Value)(p:Nat)(w:World)(e:Ending)(w':World):Prop:=On p w w'/\match r with
 |none=>e=.panicked PN
 |some (x,q)=>e=.returned (val x)/\cR w' p q
theorem iO{α:Type}{r:Option (α×ByteArray)}{val:α->Value}{p:Nat}{w w':World}(hr:r=none)(h:On p w w'):Zp r val p w (.panicked PN) w':=by subst hr;exact⟨h,rfl⟩
theorem kj{α:Type}{r:Option (α×ByteArray)}{val:α->Value}{p:Nat}{w w':World}{x:α}{q:ByteArray}(hr:r=some (x,q))(h:On p w w')(h2:cR w' p q):Zp r val p w (.returned (val x)) w':=by subst hr;exact⟨h,rfl,h2⟩
theorem qm(w:World):Calls prog 198 #[.bool true] w λe w'=>e=.returned (.tuple #[])/\w'=w:=by
 go_enter func198,ntmps198
 go_wp2_with fail
 go_end0
 exact⟨rfl,rfl⟩
theorem qn(w:World):Calls prog 198 #[.bool false] w λe w'=>e=.panicked PN/\w'=w:=by
 unfold PN;go_enter func198,ntmps198
 go_wp2_with fail
 exact⟨rfl,rfl,rfl⟩
namespace Im
theorem zE(h:Zt s.data.toList=some (n,k)):Xx s=some (n,s.extract k s.size):=by unfold Xx;rw[h]
theorem Fi(h:Zt s.data.toList=none):Xx s=none:=by unfold Xx;rw[h]
end Im
theorem sJ(s:ByteArray)(p:Nat)(w:World)(h:cR w p s)(hs:s.size<=281474976710656) :
 Calls prog 199 #[.pointer (some ⟨p,0,none⟩)] w λe w'=>Zp (Xx s) (λn=>.int .i64 (n:Nat)) p w e w':=by
 have c:=h.c
 cases hf:Zt s.data.toList with
 |none =>
  have hQ:Hid (∀w',On p w w'->Zp (Xx s) (λn=>.int .i64 (n:Nat)) p w (.panicked PN) w'):=λw' h9=>iO (Im.Fi hf) h9
  generalize Zp (Xx s) (λn=>.int .i64 (n:Nat)) p w=Q at*;have C1:=ur s w hs hf;clear hf h;go_enter func199,ntmps199
  go_wp2_with fail
  refine mo C1 λw1 G=>?_
  go_wp2_with fail
  refine mq (qn _) ?_;rintro w2 rfl;go_wp2_with fail
  exact⟨rfl,hQ.out _ (On.of G)⟩
 |some x =>
  obtain⟨n,k⟩:=x;have hQ:Hid (∀w',On p w w'->cR w' p (s.extract k s.size)->Zp (Xx s) (λn=>.int .i64 (n:Nat)) p w (.returned (.int .i64 (n:Nat))) w'):=λw' h9 h8=>kj (Im.zE hf) h9 h8
  generalize Zp (Xx s) (λn=>.int .i64 (n:Nat)) p w=Q at*;have C1:=ou s w n k hs hf;have hR:=Za λw' (h9:ae w w')=>h.below h9
  clear hf h;generalize s.extract k s.size=r at*;go_enter func199,ntmps199
  go_wp2_with fail
  refine mo C1 λw1 G=>?_
  go_wp2_with fail
  refine mo (qm _) ?_;rintro w2 rfl;have R1:=hR.out _ G;have c1:=R1.c;have f1:=R1.f;go_wp2_with fail
  exact hQ.out _ ((On.of G).set _) (R1.set _)
theorem Fj(s:ByteArray)(p m:Nat)(w:World)(h:cR w p s)(hs:s.size<=281474976710656) :
 Calls prog 153 #[.pointer (some ⟨p,0,none⟩),.int .i64 (m:Nat)] w λe w'=>Zp (WY m s) (λn=>.int .i64 (n:Nat)) p w e w':=by
 have C1:=sJ s p w h hs;unfold Zp at C1
 cases hr:Xx s with
 |none =>
  have hu:WY m s=none:=by unfold WY;rw[hr]
  have hQ:Hid (∀w',On p w w'->Zp (WY m s) (λn=>.int .i64 (n:Nat)) p w (.panicked PN) w'):=λw' h9=>iO hu h9
  generalize Zp (WY m s) (λn=>.int .i64 (n:Nat)) p w=Q at*;rw[hr]at C1;simp only at C1;clear hr hu h;go_enter func153,ntmps153
  go_wp2_with fail
  refine C1.mono ?_;rintro e w1 ⟨G,rfl⟩;go_wp2_with fail
  exact⟨rfl,hQ.out _ G⟩
 |some x =>
  obtain⟨n,q⟩:=x;rw[hr]at C1;simp only at C1;have hn:=((Yh s n q).1 hr).1;by_cases hle:n<=m
  ·have hu:WY m s=some (n,q):=by unfold WY;rw[hr];exact ax hle
   have hQ:Hid (∀w',On p w w'->cR w' p q->Zp (WY m s) (λn=>.int .i64 (n:Nat)) p w (.returned (.int .i64 (n:Nat))) w'):=λw' h9 h8=>kj hu h9 h8
   generalize Zp (WY m s) (λn=>.int .i64 (n:Nat)) p w=Q at*;have d1:decide ((n:Int)<=(m:Int))=true:=al (by omega);have d1':=al hle;clear hr hu h;go_enter func153,ntmps153
   go_wp2_with fail
   refine C1.mono ?_;rintro e w1 ⟨G,rfl,R1⟩;go_wp2_with fail
   refine mo (qm _) ?_;rintro w2 rfl;go_wp2_with fail
   exact hQ.out _ G R1
  ·have hu:WY m s=none:=by unfold WY;rw[hr];exact ab hle
   have hQ:Hid (∀w',On p w w'->Zp (WY m s) (λn=>.int .i64 (n:Nat)) p w (.panicked PN) w'):=λw' h9=>iO hu h9
   generalize Zp (WY m s) (λn=>.int .i64 (n:Nat)) p w=Q at*;have d1:decide ((n:Int)<=(m:Int))=false:=dF (by omega);have d1':=dF hle;clear hr hu h;go_enter func153,ntmps153
   go_wp2_with fail
   refine C1.mono ?_;rintro e w1 ⟨G,rfl,R1⟩;go_wp2_with fail
   refine mq (qn _) ?_;rintro w2 rfl;go_wp2_with fail
   exact⟨rfl,hQ.out _ G⟩
namespace Im
theorem OQ(h:Zt s.data.toList=some (n,k))(h1:n<=m)(h2:k+n<=s.size):bn m s=some (s.extract k (k+n),s.extract (k+n) s.size):=by
 have hk:=(WM h).2.2.1;have hz:(s.extract k s.size).size=s.size-k:=by simp
 unfold bn;rw[zE h];simp only;rw[ax ⟨h1,by omega⟩]
 congr 2
 ·apply ZN;rw[pG,bA];simp[ByteArray.data_extract,Array.toList_extract,List.extract]
 ·apply ZN;rw[bA,bA,bA,List.drop_drop]
theorem OR(h:Zt s.data.toList=some (n,k))(h1:m<n\/s.size<k+n):bn m s=none:=by
 have hk:=(WM h).2.2.1;rw[<-Zf]at hk;have hz:(s.extract k s.size).size=s.size-k:=by simp
 unfold bn;rw[zE h];simp only;rw[ab (by omega)]
theorem OS(h:Zt s.data.toList=none):bn m s=none:=by unfold bn;rw[Fi h]
end Im
theorem Fk(s:ByteArray)(p:Nat)(w:World)(h:cR w p s)(hs:s.size<=281474976710656) :
 Calls prog 154 #[.pointer (some ⟨p,0,none⟩)] w λe w'=>Zp (bn 512 s) Value.string p w e w':=by
 have c:=h.c
 have bad:bn 512 s=none->(CB 200 #[.string s] w (.tuple #[.string ⟨#[]⟩,.string ⟨#[]⟩,.int .i64 1]))->Calls prog 154 #[.pointer (some ⟨p,0,none⟩)] w λe w'=>Zp (bn 512 s) Value.string p w e w':=by
  intro hu C1;have hQ:Hid (∀w',On p w w'->Zp (bn 512 s) Value.string p w (.panicked PN) w'):=λw' h9=>iO hu h9
  generalize Zp (bn 512 s) Value.string p w=Q at*;clear hu h;go_enter func154,ntmps154
  go_wp2_with fail
  refine mo C1 λw1 G=>?_
  go_wp2_with fail
  refine mq (qn _) ?_;rintro w2 rfl;go_wp2_with fail
  exact⟨rfl,hQ.out _ (On.of G)⟩
 cases hf:Zt s.data.toList with
 |none=>exact bad (Im.OS hf) (I3 s w hs hf)
 |some x =>
  obtain⟨n,k⟩:=x;by_cases hb:512<n\/s.size<k+n
  ·exact bad (Im.OR hf hb) (I4 s w n k hs hf hb)
  ·have hu:=OQ (m:=512) hf (by omega) (by omega);have C1:=I5 s w n k hs hf (by omega) (by omega);have hQ:Hid (∀w',On p w w'->cR w' p (s.extract (k+n) s.size)->Zp (bn 512 s) Value.string p w (.returned (.string (s.extract k (k+n)))) w'):=λw' h9 h8=>kj hu h9 h8
   generalize Zp (bn 512 s) Value.string p w=Q at*;have hR:=Za λw' (h9:ae w w')=>h.below h9
   clear hf h hu bad hb;generalize s.extract (k+n) s.size=r at*;generalize s.extract k (k+n)=u at*;go_enter func154,ntmps154
   go_wp2_with fail
   refine mo C1 λw1 G=>?_
   go_wp2_with fail
   refine mo (qm _) ?_;rintro w2 rfl;have R1:=hR.out _ G;have c1:=R1.c;have f1:=R1.f;go_wp2_with fail
   exact hQ.out _ ((On.of G).set _) (R1.set _)
theorem OT(s:ByteArray)(p:Nat)(w:World)(h:cR w p s)(hs:s.size<=281474976710656) :
 Calls prog 201 #[.pointer (some ⟨p,0,none⟩)] w λe w'=>Zp (bn 2147483647 s) Value.string p w e w':=by
 have C1:=sJ s p w h hs;unfold Zp at C1
 cases hr:Xx s with
 |none =>
  have hu:bn 2147483647 s=none:=by unfold bn;rw[hr]
  have hQ:Hid (∀w',On p w w'->Zp (bn 2147483647 s) Value.string p w (.panicked PN) w'):=λw' h9=>iO hu h9
  generalize Zp (bn 2147483647 s) Value.string p w=Q at*;rw[hr]at C1;simp only at C1;clear hr hu h;go_enter func201,ntmps201
  go_wp2_with fail
  refine C1.mono ?_;rintro e w1 ⟨G,rfl⟩;go_wp2_with fail
  exact⟨rfl,hQ.out _ G⟩
 |some x =>
  obtain⟨n,q⟩:=x;rw[hr]at C1;simp only at C1;have hn:=((Yh s n q).1 hr).1
  have DN:q.size<=s.size:=by
   have:=congrArg List.length ((Yh s n q).1 hr).2;rw[List.length_append,<-Zf,<-Zf]at this;omega
  by_cases hle:n<=q.size
  ·have hu:bn 2147483647 s=some (q.extract 0 n,q.extract n q.size):=by unfold bn;rw[hr];exact ax ⟨hn,hle⟩
   have hQ:Hid (∀w',On p w w'->cR w' p (q.extract n q.size)->Zp (bn 2147483647 s) Value.string p w (.returned (.string (q.extract 0 n))) w'):=λw' h9 h8=>kj hu h9 h8
   generalize Zp (bn 2147483647 s) Value.string p w=Q at*;have d1:decide ((n:Int)<=(q.size:Int))=true:=al (by omega);have d1':=al hle;have hni:(n:Int)<=(q.size:Int):=by omega
   clear hr hu h;go_enter func201,ntmps201
   go_wp2_with fail
   refine C1.mono ?_;rintro e w1 ⟨G,rfl,R1⟩;have c1:=R1.c;go_wp2_with fail
   refine mo (qm _) ?_;rintro w2 rfl;go_wp2_with fail
   refine mo (ZY _ _ (by simp;omega)) λw3 G3=>?_
   have R3:=R1.below G3;have c3:=R3.c;have f3:=R3.f;go_wp2_with fail
   exact hQ.out _ ((G.trans (On.of G3)).set _) (R3.set _)
  ·have hu:bn 2147483647 s=none:=by unfold bn;rw[hr];exact ab (λh9=>hle h9.2)
   have hQ:Hid (∀w',On p w w'->Zp (bn 2147483647 s) Value.string p w (.panicked PN) w'):=λw' h9=>iO hu h9
   generalize Zp (bn 2147483647 s) Value.string p w=Q at*;have d1:decide ((n:Int)<=(q.size:Int))=false:=dF (by omega);have d1':=dF hle;clear hr hu h;go_enter func201,ntmps201
   go_wp2_with fail
   refine C1.mono ?_;rintro e w1 ⟨G,rfl,R1⟩;have c1:=R1.c;go_wp2_with fail
   refine mq (qn _) ?_;rintro w2 rfl;go_wp2_with fail
   exact⟨rfl,hQ.out _ G⟩
def pfx(t s:ByteArray):Bool:=decide (t.size<=s.size)&&((s.extract 0 t.size).toList==t.toList)
theorem OU(s t:ByteArray)(w:World) :
 Calls prog 246 #[.string s,.string t] w λe w'=>e=.returned (.bool (pfx t s))/\w'=w:=by
 by_cases hle:t.size<=s.size
 ·have d1:decide ((s.size:Int) ≥ (t.size:Int))=true:=al (by omega);have d1':=al hle;have hi:(t.size:Int)<=(s.size:Int):=by omega
  have hP:Hid (pfx t s=((s.extract 0 t.size).toList==t.toList)):=by show _=_;unfold pfx;rw[d1',Bool.true_and]
  go_enter func246,ntmps246
  go_wp2_with fail
  go_ret
  exact⟨by rw[hP.out];rfl,rfl⟩
 ·have d1:decide ((s.size:Int) ≥ (t.size:Int))=false:=dF (by omega);have d1':=dF hle;have hP:Hid (pfx t s=false):=by show _=_;unfold pfx;rw[d1',Bool.false_and]
  go_enter func246,ntmps246
  go_wp2_with fail
  go_ret
  exact⟨by rw[hP.out];rfl,rfl⟩
theorem OV(s t:ByteArray)(w:World) :
 Calls prog 230 #[.string s,.string t] w λe w'=>e=.returned (.tuple #[.string (if pfx t s=true then s.extract t.size s.size else s),.bool (pfx t s)])/\w'=w:=by
 have C1:=OU s t w
 cases hp:pfx t s with
 |true =>
  have hle:t.size<=s.size:=by
   unfold pfx at hp;simp at hp;exact hp.1
  have hi:(t.size:Int)<=(s.size:Int):=by omega
  rw[ax rfl];rw[hp]at C1;clear hp;go_enter func230,ntmps230
  go_wp2_with fail
  refine mo C1 ?_;rintro w1 rfl;go_wp2_with fail
  go_ret2
  exact⟨rfl,rfl⟩
 |false =>
  rw[ab (by simp)];rw[hp]at C1;clear hp;go_enter func230,ntmps230
  go_wp2_with fail
  refine mo C1 ?_;rintro w1 rfl;go_wp2_with fail
  go_ret2
  exact⟨rfl,rfl⟩
theorem OW(s t:ByteArray)(w:World) :
 Calls prog 197 #[.string s,.string t] w λe w'=>e=.returned (.tuple #[.string (if pfx t s=true then s.extract t.size s.size else s),.bool (pfx t s)])/\w'=w:=by
 have C1:=OV s t w;generalize (if pfx t s=true then s.extract t.size s.size else s)=r at*;generalize pfx t s=b at*;go_enter func197,ntmps197
 go_wp2_with fail
 refine mo C1 ?_;rintro w1 rfl;go_wp2_with fail
 go_ret2
 exact⟨rfl,rfl⟩
def oY(t s:ByteArray):Option (Unit×ByteArray):=if pfx t s=true then some ((),s.extract t.size s.size) else none
theorem OX(s t:ByteArray)(p:Nat)(w:World)(h:cR w p s) :
 Calls prog 152 #[.pointer (some ⟨p,0,none⟩),.string t] w λe w'=>Zp (oY t s) (λ_=>.tuple #[]) p w e w':=by
 have c:=h.c;have C1:=OW s t w
 cases hp:pfx t s with
 |true =>
  have hQ:Hid (∀w',On p w w'->cR w' p (s.extract t.size s.size)->Zp (oY t s) (λ_=>.tuple #[]) p w (.returned (.tuple #[])) w'):=λw' h9 h8=>kj (x:=()) (ax hp) h9 h8
  generalize Zp (oY t s) (λ_=>.tuple #[]) p w=Q at*;rw[hp,ax rfl]at C1;generalize s.extract t.size s.size=r at*;have f:=h.f;go_enter func152,ntmps152
  go_wp2_with fail
  refine mo C1 ?_;rintro w1 rfl;go_wp2_with fail
  refine mo (qm _) ?_;rintro w2 rfl;go_wp2_with fail
  go_end0
  exact hQ.out _ ((On.refl _ _).set _) (h.set _)
 |false =>
  have hQ:Hid (∀w',On p w w'->Zp (oY t s) (λ_=>.tuple #[]) p w (.panicked PN) w'):=λw' h9=>iO (ab (by rw[hp];simp)) h9
  generalize Zp (oY t s) (λ_=>.tuple #[]) p w=Q at*;rw[hp,ab (by simp)]at C1;go_enter func152,ntmps152
  go_wp2_with fail
  refine mo C1 ?_;rintro w1 rfl;go_wp2_with fail
  refine mq (qn _) ?_;rintro w2 rfl;go_wp2_with fail
  exact⟨rfl,hQ.out _ (On.refl _ _)⟩
def iS(s:ByteArray):Option (Unit×ByteArray):=if s.size=0 then some ((),s) else none
theorem OY(s:ByteArray)(p:Nat)(w:World)(h:cR w p s) :
 Calls prog 156 #[.pointer (some ⟨p,0,none⟩)] w λe w'=>Zp (iS s) (λ_=>.tuple #[]) p w e w':=by
 have c:=h.c;by_cases hz:s.size=0
 ·have hQ:Hid (∀w',On p w w'->cR w' p s->Zp (iS s) (λ_=>.tuple #[]) p w (.returned (.tuple #[])) w'):=λw' h9 h8=>kj (x:=()) (ax hz) h9 h8
  generalize Zp (iS s) (λ_=>.tuple #[]) p w=Q at*
  obtain rfl:s=⟨#[]⟩:=by
   apply ZN;rw[Zf]at hz;exact lZ.1 hz
  go_enter func156,ntmps156
  go_wp2_with fail
  refine mo (qm _) ?_;rintro w2 rfl;go_wp2_with fail
  go_end0
  exact hQ.out _ (On.refl _ _) h
 ·have hQ:Hid (∀w',On p w w'->Zp (iS s) (λ_=>.tuple #[]) p w (.panicked PN) w'):=λw' h9=>iO (ab hz) h9
  generalize Zp (iS s) (λ_=>.tuple #[]) p w=Q at*
  have d1:s.toList.isEmpty=false:=by
   cases hl:s.toList with
   |nil=>exact absurd (by rw[Zf,<-ByteArray.toList_eq,hl];rfl) hz
   |cons=>rfl
  go_enter func156,ntmps156
  go_wp2_with fail
  refine mq (qn _) ?_;rintro w2 rfl;go_wp2_with fail
  exact⟨rfl,hQ.out _ (On.refl _ _)⟩
theorem Fl(s:ByteArray)(w:World) :
 Calls prog 151 #[.string s] w λe w'=>e=.returned (.pointer (some ⟨w.heap.size,0,none⟩))/\w'=w.alloc (.cells #[.string s] 163 (0,0)):=by
 go_enter func151,ntmps151
 go_wp2_with fail
 go_ret
 exact⟨rfl,rfl⟩
def aw:List Ar.F->List Value
 |[]=>[]
 |f :: fs=>[.string f.name,.int .i64 f.dict,.int .i64 f.size,.int .i64 f.sum,.string f.blk]++aw fs
theorem iF:∀fs:List Ar.F,(aw fs).length=fs.length*5
 |[]=>rfl
 |f :: fs=>by rw[aw,List.length_append,iF fs,List.length_cons];simp;omega
theorem ZE:∀fs gs:List Ar.F,aw (fs++gs)=aw fs++aw gs
 |[],_=>rfl
 |f :: fs,gs=>by rw[List.cons_append,aw,aw,ZE fs gs,List.append_assoc]
structure aD(lo:Nat)(w:World)(v1 v2:Value)(a:Ar.A):Prop where
 o1:w.ownsRow lo 9 1 v1 a.aa.length (a.aa.map Value.string)
 o2:w.ownsRow lo 73 5 v2 a.files.length (aw a.files)
 ne:∀j,v1.ownBlock=some j->v2.ownBlock≠some j
theorem zF(w:World)(a b c:Array Value)(s t u:TypeId):(∀i,(((w.alloc (.cells a s (0,0))).alloc (.cells b t (0,0))).alloc (.cells c u (0,0))).cell? ⟨w.heap.size,i,none⟩=a[i]?)/\(∀i,(((w.alloc (.cells a s (0,0))).alloc (.cells b t (0,0))).alloc (.cells c u (0,0))).cell? ⟨w.heap.size+1,i,none⟩=b[i]?) ∧
 ∀i,(((w.alloc (.cells a s (0,0))).alloc (.cells b t (0,0))).alloc (.cells c u (0,0))).cell? ⟨w.heap.size+2,i,none⟩=c[i]?:=by
 refine⟨λi=>?_,λi=>?_,λi=>?_⟩
 ·rw[World.cell?_alloc_lt _ _ _ (by simp;omega)];exact(gK w a b s t).1 i
 ·rw[World.cell?_alloc_lt _ _ _ (by simp)];exact(gK w a b s t).2 i
 ·have e:((w.alloc (.cells a s (0,0))).alloc (.cells b t (0,0))).heap.size=w.heap.size+2:=by simp
  rw[<-e,World.cell?_alloc_new]
theorem OZ{xs:List ByteArray}(h:k<xs.length):(xs.take (k+1)).map Value.string=(xs.take k).map Value.string++[.string (VA xs k)]:=by
 rw[List.take_succ_eq_append_getElem h,List.map_append];simp[VA,h]
theorem il(h:k<fs.length):aw (fs.take (k+1))=aw (fs.take k)++[.string (Nm fs k).name,.int .i64 (Nm fs k).dict,.int .i64 (Nm fs k).size,.int .i64 (Nm fs k).sum,.string (Nm fs k).blk]:=by
 rw[YL h,ZE];rfl
theorem cZ(a b:ByteArray)(x y z:Int):∀u∈([.string a,.int .i64 x,.int .i64 y,.int .i64 z,.string b]:List Value),u.oneCell'=true:=by
 intro u hu;simp at hu;rcases hu with rfl|rfl|rfl|rfl|rfl<;>rfl
theorem jT(w:World)(p q r s t:Value)(T:TypeId):∀j u,[p,q,r,s,t][j]?=some u->(w.alloc (.cells #[p,q,r,s,t] T)).cell? ((⟨w.heap.size,0,none⟩:Addr).add j)=some u:=by
 intro j u hj;rw[oy,World.cell?_alloc_mark];simpa using hj
theorem fz3(w:World)(a b c:Array Value)(s t u:TypeId)(x o:Nat)(h1:x<w.heap.size+3)(h2:w.heap.size<=x):(((w.alloc (.cells a s (0,0))).alloc (.cells b t (0,0))).alloc (.cells c u (0,0))).frozen? ⟨x,o,none⟩=false:=by
 have e1:(w.alloc (.cells a s (0,0))).heap.size=w.heap.size+1:=by simp
 have e2:((w.alloc (.cells a s (0,0))).alloc (.cells b t (0,0))).heap.size=w.heap.size+2:=by simp
 by_cases k2:x=w.heap.size+2
 ·exact fN _ _ _ _ (by rw[e2];exact k2)
 ·rw[World.frozen?_alloc_past _ _ _ (by rw[e2];omega)];by_cases k1:x=w.heap.size+1
  ·exact fN _ _ _ _ (by rw[e1];exact k1)
  ·rw[World.frozen?_alloc_past _ _ _ (by rw[e1];omega)];exact fN _ _ _ _ (by omega)
theorem Zq{size:Nat}(h:w.ownsRow b e size v n xs):∃ad cap,v=.slice ad n cap/\n<=cap:=by
 rcases h.2 with⟨h1,h2⟩|⟨g,cap,cur,h1,h2,h3,h4,_⟩
 ·exact⟨none,0,by rw[h1,h2],by omega⟩
 ·exact⟨_,cap,h1,h4⟩
theorem qo{c:Nat}{size:Nat}(h:w.ownsRow b e size v n xs)(hc:c<=b):w.ownsRow c e size v n xs:=by
 refine⟨h.1,?_⟩;rcases h.2 with h2|⟨g,cap,cur,h1,h2,h3⟩
 ·exact .inl h2
 ·exact .inr ⟨g,cap,cur,h1,by omega,h3⟩
theorem sK(ad af:Option Addr)(cd cf:Nat)(a:Ar.A)(w:World)(h:bo w ad af a)(hs:ao a)(h4:a.aa.length<=4)(h12:a.files.length<=12) :
 Calls prog 66 #[av ad cd af cf a] w λe w'=>∃v1 v2,e=.returned (.agg #[v1,v2])/\aD w.heap.size w' v1 v2 a/\ae w w':=by
 obtain⟨i0,hi,hz0,hz1,hz2⟩:=info_parts (P:=prog) (e:=9) (z:=.string ⟨#[]⟩) (size:=1) (bytes:=16) (by kernel_rfl);obtain⟨j0,gi,ej,dX,ek⟩:=info_parts (P:=prog) (e:=73) (z:=.agg #[.string ⟨#[]⟩,.int .i64 0,.int .i64 0,.int .i64 0,.string ⟨#[]⟩]) (size:=5) (bytes:=56) (by kernel_rfl);have zG:=Za λk (hk:k<a.files.length)=>il hk
 have HX:=Za λw' (hb:ae w w') k (hk:k<a.aa.length)=>(h.ds.below hb).at hk
 have cy:=Za λw' (h9:ae w w') k (hk:k<a.files.length)=>(h.fs.below h9).at hk
 have HZ:Hid (∀k,(VA a.aa k).size<=281474976710656/\(Nm a.files k).name.size<=281474976710656/\(Nm a.files k).blk.size<=281474976710656):=λk=>⟨nt (hs.ds k) (by decide),nt (hs.nm k) (by decide),nt (hs.bk k) (by decide)⟩
 have HE:Hid (∀v1 v2 w',w'.ownsRow (w.heap.size+3) 9 1 v1 a.aa.length (a.aa.map Value.string)->w'.ownsRow (w.heap.size+3) 73 5 v2 a.files.length (aw a.files)->(∀j,v1.ownBlock=some j->v2.ownBlock≠some j)->aD w.heap.size w' v1 v2 a):=λv1 v2 w' h1 h2 h3=>⟨qo h1 (by omega),qo h2 (by omega),h3⟩
 have zH:=Za λk (hk:k<a.aa.length)=>OZ hk
 clear h hs;unfold av
 obtain⟨D,hD⟩:∃D,a.aa.length=D:=⟨_,rfl⟩
 obtain⟨N,hN⟩:∃N,a.files.length=N:=⟨_,rfl⟩
 simp only[hD,hN]at HX cy HE zH zG;rw[hD]at h4 |-
 rw[hN]at h12 |-
 have vt:=Za hD;have cK:=Za hN;clear hD hN;have hD':(D:Int)<=4:=by omega
 have hN':(N:Int)<=12:=by omega
 go_enter func66,ntmps66
 go_wp2_with fail
 obtain⟨k1,k2,k3⟩:=zF w #[.slice ad D cd,.slice af N cf] #[.slice none 0 0,.slice none 0 0] #[.slice none 0 0,.slice none 0 0] 35 35 35;have B0:ae w (((w.alloc (.cells #[.slice ad D cd,.slice af N cf] 35 (0,0))).alloc (.cells #[.slice none 0 0,.slice none 0 0] 35 (0,0))).alloc (.cells #[.slice none 0 0,.slice none 0 0] 35 (0,0))):=(((bR _ _).alloc (nl _) _).alloc (by simp) _).alloc (by simp;omega) _;have hsz:(((w.alloc (.cells #[.slice ad D cd,.slice af N cf] 35 (0,0))).alloc (.cells #[.slice none 0 0,.slice none 0 0] 35 (0,0))).alloc (.cells #[.slice none 0 0,.slice none 0 0] 35 (0,0))).heap.size=w.heap.size+3:=by simp
 have fz:∀b o,b<w.heap.size+3->w.heap.size<=b->(((w.alloc (.cells #[.slice ad D cd,.slice af N cf] 35 (0,0))).alloc (.cells #[.slice none 0 0,.slice none 0 0] 35 (0,0))).alloc (.cells #[.slice none 0 0,.slice none 0 0] 35 (0,0))).frozen? ⟨b,o,none⟩=false:=λb o h1 h2=>fz3 w _ _ _ _ _ _ b o h1 h2
 generalize (((w.alloc (.cells #[.slice ad D cd,.slice af N cf] 35 (0,0))).alloc (.cells #[.slice none 0 0,.slice none 0 0] 35 (0,0))).alloc (.cells #[.slice none 0 0,.slice none 0 0] 35 (0,0)))=w3 at*;have a0:w3.cell? ⟨w.heap.size,0,none⟩=some (.slice ad D cd):=k1 0;have a1:w3.cell? ⟨w.heap.size,1,none⟩=some (.slice af N cf):=k1 1;have r0:w3.cell? ⟨w.heap.size+1,0,none⟩=some (.slice none 0 0):=k2 0;have r1:w3.cell? ⟨w.heap.size+1,1,none⟩=some (.slice none 0 0):=k2 1
 have S0:jS w3 w3 (w.heap.size+2) (w.heap.size+3) (.slice none 0 0) (.slice none 0 0) 0 0 [] [] :=
  ⟨k3 0,k3 1,fz _ _ (by omega) (by omega),fz _ _ (by omega) (by omega),⟨rfl,.inl ⟨rfl,rfl⟩⟩,⟨rfl,.inl ⟨rfl,rfl⟩⟩,λj hj=>by simp[Value.ownBlock]at hj,by omega,by omega,bR _ _⟩
 have zr:=fz (w.heap.size+1) 0 (by omega) (by omega);have Pb:=fz (w.heap.size+1) 1 (by omega) (by omega);have Pd:=Za hsz;have hs1:w.heap.size<w3.heap.size:=by omega
 have hs2:w.heap.size+1<w3.heap.size:=by omega
 have hs3:w.heap.size+2<w3.heap.size:=by omega
 clear k1 k2 k3 fz hsz;go_loopw [11] (λi wr=>∃(k:Nat) (v:Value),k<=D/\i=.int .i64 k/\jS w3 wr (w.heap.size+2) (w.heap.size+3) v (.slice none 0 0) k 0 ((a.aa.take k).map Value.string) []) (λi _=>D-(intOf i).toNat)
 case atStart=>exact⟨0,.slice none 0 0,by omega,rfl,S0⟩
 case round =>
  clear S0;obtain⟨k,v,hk2,rfl,S1⟩:=hrel;have B1:=B0.trans (S1.bel.mono (by omega));have ql:=S1.hb;have a1':=(S1.bel.cell (p:=⟨w.heap.size,1,none⟩) (by show w.heap.size<_;omega)).trans a1;by_cases hlt:k<D
  ·have d1:=al (by omega:(k:Int)<(D:Int));have d1':=al (by omega:k<D);have hki:(k:Int)<(D:Int):=by omega
   obtain⟨b,off,rfl,hbl,hc⟩:=HX.out wr B1 k hlt;have xz:=(HZ.out k).1;have HS:=zH.out k hlt;generalize VA a.aa k=X at*;have c0:=S1.c0;have f0:=S1.f0;go_wp2_with fail
   go_region_law (first
    |(refine gF _ rfl _ _ 32 rfl (w.heap.size+3) 9 i0 (.string ⟨#[]⟩) 1 16 je hi hz0 hz1 hz2 rfl (by decide) v _ _ rfl (S2.o1.alloc _) ⟨w2.heap.size,0,none⟩ 1 1 [.string X] rfl rfl (cell_one_new _ _ _) (by simp[Value.oneCell']) (by decide) (by unfold maxLen;omega) (by omega) (by simp;omega) _ rfl ?_;intro g cp w5 hown5 aB bc fI;obtain⟨⟨q1,q2⟩,S3⟩:=S2.gL aB hown5 bc;clear aB hown5 bc fI)
    |(go_simp;go_at_call 73;refine(ZY _ _ xz).mono ?_;rintro e w2 ⟨rfl,G2⟩;have S2:=S1.below (Below.trans ((bR _ _).drew) G2);have c2:=S2.c0;have c3:∀o,(w2.alloc o).cell? ⟨w.heap.size+2,0,none⟩=some v:=(λo=>(gW _ _ _ (cL w2 _ c2)).trans c2);have hb2:=S2.hb))
   all_goals
    go_wp2_with fail
    go_roundw
    case rel=>exact⟨k+1,_,by omega,by go_num,by rw[HS];exact S3⟩
    case measure=>simp[intOf];omega
  ·obtain rfl:k=D:=by omega
   have d1:decide ((k:Int)<(k:Int))=false:=by simp
   have Pe:Hid (a.aa.take k=a.aa):=by show _=_;rw[<-vt.out,List.take_length]
   rw[Pe.out]at S1;have S2:jS w3 wr (w.heap.size+2) (w.heap.size+3) v (.slice none 0 0) k 0 (a.aa.map Value.string) (aw (a.files.take 0)):=S1;clear S1 B1 ql;go_wp2_with fail
   clear a1';go_loopw [26] (λi wr=>∃(m:Nat) (v2:Value),m<=N/\i=.int .i64 m/\jS w3 wr (w.heap.size+2) (w.heap.size+3) v v2 k m (a.aa.map Value.string) (aw (a.files.take m))) (λi _=>N-(intOf i).toNat)
   case atStart=>exact⟨0,.slice none 0 0,by omega,rfl,S2⟩
   case round =>
    clear S2;obtain⟨m,v2,hm2,rfl,S1⟩:=hrel;have B1:=B0.trans (S1.bel.mono (by omega));have ql:=S1.hb;by_cases hlt:m<N
    ·have d2:=al (by omega:(m:Int)<(N:Int));have eJ:=al (by omega:m<N);have jQ:(m:Int)<(N:Int):=by omega
     obtain⟨b,off,rfl,hbl,hc⟩:=cy.out wr B1 m hlt;obtain⟨c0,c1,c2,c3,c4⟩:=hc;have xz:=(HZ.out m).2.1;have Pf:=(HZ.out m).2.2;have HS:=zG.out m hlt;generalize (Nm a.files m).name=f0 at*;generalize (Nm a.files m).dict=f1 at*;generalize (Nm a.files m).size=f2 at*;generalize (Nm a.files m).sum=f3 at*;generalize (Nm a.files m).blk=f4 at*;have C0:=λw=>ZY f0 w xz
     have C4:=λw=>ZY f4 w Pf
     go_wp2_with fail
     have S2:=S1.below ((bR _ _).alloc (nl _) (.cells #[.string f0,.int .i64 f1,.int .i64 f2,.int .i64 f3,.string f4] 73 (0,0)));have hF:=λi=>cN wr #[.string f0,.int .i64 f1,.int .i64 f2,.int .i64 f3,.string f4] 73 i
     have iT:=λi=>fN (w:=wr) #[.string f0,.int .i64 f1,.int .i64 f2,.int .i64 f3,.string f4] 73 _ i rfl
     have jU:wr.heap.size<(wr.alloc (.cells #[.string f0,.int .i64 f1,.int .i64 f2,.int .i64 f3,.string f4] 73 (0,0))).heap.size:=by simp
     generalize (wr.alloc (.cells #[.string f0,.int .i64 f1,.int .i64 f2,.int .i64 f3,.string f4] 73 (0,0)))=wF at*;generalize wr.heap.size=Fb at*
     have cj:Hid (∀w',ae wF w'->ae wF w'/\w'.cell? ⟨Fb,0,none⟩=some (.string f0)/\w'.cell? ⟨Fb,4,none⟩=some (.string f4)/\w'.frozen? ⟨Fb,0,none⟩=false/\w'.frozen? ⟨Fb,4,none⟩=false):=λw' h9 =>
      ⟨h9,(h9.cell (p:=⟨Fb,0,none⟩) jU).trans (hF 0),(h9.cell (p:=⟨Fb,4,none⟩) jU).trans (hF 4),(h9.frozen (p:=⟨Fb,0,none⟩) jU).trans (iT 0),(h9.frozen (p:=⟨Fb,4,none⟩) jU).trans (iT 4)⟩
     have HW:Hid (∀w',ae wF w'->w'.setCell ⟨Fb,0,none⟩ (.string f0)=w'/\w'.setCell ⟨Fb,4,none⟩ (.string f4)=w'):=λw' h9 =>
      ⟨Zd (cj.out w' h9).2.1,Zd (cj.out w' h9).2.2.1⟩
     have HF:=Za λw' (h9:ae wF w') i=>(h9.cell (p:=⟨Fb,i,none⟩) jU).trans (hF i)
     clear hF iT c0 c1 c2 c3 c4 B1 S1 hbl;go_region_held3 (λw'=>ae wF w'/\w'.cell? ⟨Fb,0,none⟩=some (.string f0)/\w'.cell? ⟨Fb,4,none⟩=some (.string f4)/\w'.frozen? ⟨Fb,0,none⟩=false/\w'.frozen? ⟨Fb,4,none⟩=false)
      (first|(exact cj.out _ ((bR _ _).drew))|(exact cj.out _ (ag (And.left (by assumption)) G6))|(exact cj.out _ (ag (And.left (by assumption)) G5))|(rw[(HW.out _ (And.left (by assumption))).1];assumption)|(rw[(HW.out _ (And.left (by assumption))).2];assumption))
      (first
       |(go_at_call 73;refine(C0 _).mono ?_;rintro e w5 ⟨rfl,G5⟩)
       |(go_at_call 73;refine(C4 _).mono ?_;rintro e w6 ⟨rfl,G6⟩))
     have sO:=ag (ag ((bR _ _).drew) G5) G6;rw[(HW.out _ sO).1,(HW.out _ sO).2];have S3:=S2.below sO;have hF:=HF.out w6 sO;have b0:w6.cell? ⟨Fb,0,none⟩=some (.string f0):=hF 0;have b1:w6.cell? ⟨Fb,1,none⟩=some (.int .i64 f1):=hF 1;have b2:w6.cell? ⟨Fb,2,none⟩=some (.int .i64 f2):=hF 2;have b3:w6.cell? ⟨Fb,3,none⟩=some (.int .i64 f3):=hF 3;have b4:w6.cell? ⟨Fb,4,none⟩=some (.string f4):=hF 4;have c1:=S3.c1;have hb3:=S3.hb;clear cj HW HF G5 G6 sO S2 C0 C4 hF
     go_wp2_with (first
      |(at_builtin;refine kd _ rfl _ _ 33 rfl (w.heap.size+3) 73 j0 (.agg #[.string ⟨#[]⟩,.int .i64 0,.int .i64 0,.int .i64 0,.string ⟨#[]⟩]) 5 56 eX gi ej dX ek rfl (by decide) v2 _ _ rfl (S3.o2.alloc _) ⟨w6.heap.size,0,none⟩ 1 1 [.string f0,.int .i64 f1,.int .i64 f2,.int .i64 f3,.string f4] rfl rfl (jT _ _ _ _ _ _ _) (cZ _ _ _ _ _) (by decide) (by unfold maxLen;omega) (by omega) (by simp;omega) _ rfl ?_;intro g cp w7 ay a7 aU bM;obtain⟨⟨q1,q2⟩,S4⟩:=S3.br a7 ay aU;clear a7 ay aU bM)
      |fail)
     go_roundw
     case rel=>exact⟨m+1,_,by omega,by go_num,by rw[HS];exact S4⟩
     case measure=>simp[intOf];omega
    ·obtain rfl:m=N:=by omega
     have d2:decide ((m:Int)<(m:Int))=false:=by simp
     have Fm:Hid (a.files.take m=a.files):=by show _=_;rw[<-cK.out,List.take_length]
     rw[Fm.out]at S1;have r0':=(S1.bel.cell (p:=⟨w.heap.size+1,0,none⟩) (by show w.heap.size+1<_;omega)).trans r0;have r1':=(S1.bel.cell (p:=⟨w.heap.size+1,1,none⟩) (by show w.heap.size+1<_;omega)).trans r1;have z0':=(S1.bel.frozen (p:=⟨w.heap.size+1,0,none⟩) (by show w.heap.size+1<_;omega)).trans zr;have z1':=(S1.bel.frozen (p:=⟨w.heap.size+1,1,none⟩) (by show w.heap.size+1<_;omega)).trans Pb;have c0:=S1.c0;have c1:=S1.c1;have g1:=Ze wr ⟨w.heap.size+1,0,none⟩ v;have g2:=Ze (wr.setCell ⟨w.heap.size+1,0,none⟩ v) ⟨w.heap.size+1,1,none⟩ v2;have S5:=HE.out v v2 _ ((S1.o1.kept g1 (.inr (ib S1.o1 (by show w.heap.size+1<_;omega)).symm)).kept g2 (.inr (ib S1.o1 (by show w.heap.size+1<_;omega)).symm))
      ((S1.o2.kept g1 (.inr (ib S1.o2 (by show w.heap.size+1<_;omega)).symm)).kept g2 (.inr (ib S1.o2 (by show w.heap.size+1<_;omega)).symm)) S1.ne
     have u0:((wr.setCell ⟨w.heap.size+1,0,none⟩ v).setCell ⟨w.heap.size+1,1,none⟩ v2).cell? ⟨w.heap.size+1,0,none⟩=some v:=(cO _ _ _ _ (by intro e;have:=congrArg Addr.off e;simp at this)).trans (cS _ _ _ r0');have u1:((wr.setCell ⟨w.heap.size+1,0,none⟩ v).setCell ⟨w.heap.size+1,1,none⟩ v2).cell? ⟨w.heap.size+1,1,none⟩=some v2:=cS _ _ _ ((cO _ _ _ _ (by intro e;have:=congrArg Addr.off e;simp at this)).trans r1');have B4:ae w ((wr.setCell ⟨w.heap.size+1,0,none⟩ v).setCell ⟨w.heap.size+1,1,none⟩ v2):=(B1.setCell (by show _<=w.heap.size+1;omega) _).setCell (by show _<=w.heap.size+1;omega) _;obtain⟨p1,q1,rfl,_⟩:=Zq S1.o1;obtain⟨p2,q2,rfl,_⟩:=Zq S1.o2;have hlt1:w.heap.size+1<wr.heap.size:=by omega
     clear HE Fm zG cy HX zH HZ g1 g2;go_wp2_with fail
     generalize (wr.setCell _ _).setCell _ _=wz at*;exact bodyPost_ret (v:=.agg #[.slice p1 k q1,.slice p2 m q2]) (by simp[results,results66,go_sem,u0,u1]) rfl ⟨_,_,rfl,S5,B4⟩
theorem eQ(w:World)(g i j:Nat)(v:Value)(h:i≠j):(w.setCell ⟨g,i,none⟩ v).cell? ⟨g,j,none⟩=w.cell? ⟨g,j,none⟩:=World.cell?_setCell_other _ _ _ _ (by intro e;have:=congrArg Addr.off e;exact h this)
theorem oZ{u:Value}(h:w.cell? ⟨g,i,none⟩=some u):(w.setCell ⟨g,i,none⟩ v).cell? ⟨g,i,none⟩=some v:=World.cell?_setCell_same _ _ _ h
def fh(w:World)(g o:Nat)(v0 v1 v2 v3 v4:Value):World:=((((w.setCell ⟨g,o,none⟩ v0).setCell ⟨g,o+1,none⟩ v1).setCell ⟨g,o+2,none⟩ v2).setCell ⟨g,o+3,none⟩ v3).setCell ⟨g,o+4,none⟩ v4
theorem ik{u0 u1 u2 u3 u4:Value}(v0 v1 v2 v3 v4:Value)(h0:w.cell? ⟨g,o,none⟩=some u0)(h1:w.cell? ⟨g,o+1,none⟩=some u1)(h2:w.cell? ⟨g,o+2,none⟩=some u2)(h3:w.cell? ⟨g,o+3,none⟩=some u3)(h4:w.cell? ⟨g,o+4,none⟩=some u4) :
 (fh w g o v0 v1 v2 v3 v4).cell? ⟨g,o,none⟩=some v0/\(fh w g o v0 v1 v2 v3 v4).cell? ⟨g,o+1,none⟩=some v1/\(fh w g o v0 v1 v2 v3 v4).cell? ⟨g,o+2,none⟩=some v2/\(fh w g o v0 v1 v2 v3 v4).cell? ⟨g,o+3,none⟩=some v3/\(fh w g o v0 v1 v2 v3 v4).cell? ⟨g,o+4,none⟩=some v4:=by
 unfold fh;refine⟨?_,?_,?_,?_,?_⟩
 ·rw[eQ _ _ _ _ _ (by omega),eQ _ _ _ _ _ (by omega),eQ _ _ _ _ _ (by omega),eQ _ _ _ _ _ (by omega)];exact oZ h0
 ·rw[eQ _ _ _ _ _ (by omega),eQ _ _ _ _ _ (by omega),eQ _ _ _ _ _ (by omega)];exact oZ ((eQ _ _ _ _ _ (by omega)).trans h1)
 ·rw[eQ _ _ _ _ _ (by omega),eQ _ _ _ _ _ (by omega)];exact oZ ((eQ _ _ _ _ _ (by omega)).trans ((eQ _ _ _ _ _ (by omega)).trans h2))
 ·rw[eQ _ _ _ _ _ (by omega)];exact oZ ((eQ _ _ _ _ _ (by omega)).trans ((eQ _ _ _ _ _ (by omega)).trans ((eQ _ _ _ _ _ (by omega)).trans h3)))
 ·exact oZ ((eQ _ _ _ _ _ (by omega)).trans ((eQ _ _ _ _ _ (by omega)).trans ((eQ _ _ _ _ _ (by omega)).trans ((eQ _ _ _ _ _ (by omega)).trans h4))))
theorem vu{B:Nat}(h:Below B a w)(g o:Nat)(v0 v1 v2 v3 v4:Value)(hg:B<=g):Below B a (fh w g o v0 v1 v2 v3 v4):=((((h.setCell hg _).setCell hg _).setCell hg _).setCell hg _).setCell hg _
theorem zI(ad af:Option Addr)(cd cf:Nat)(a:Ar.A)(name text:ByteArray)(dict:Int)(w:World)(hx:bz w ad a.aa)(hl:a.aa.length<=4)(hd:(V5 a.aa dict).size<=256)(hh:VY a.aa dict=true)(ht:text.size<=512)(hn:name.size<=140737488355328) :
 CB 65 #[av ad cd af cf a,.string name,.string text,.int .i64 dict] w (.tuple #[fv (VN a.aa name text dict),.int .i64 0]):=by
 have hb:=λo p=>((bR w.heap.size w).alloc (nl _) o).alloc (by simp) p
 have c1:=λo p=>ED ad af cd cf a dict ((w.alloc o).alloc p) (hx.below (hb o p)) (by omega) hh
 have hp:=zn hd ht;have c2:=λw=>Na (V5 a.aa dict) text w (by omega) (by omega)
 have c3:=λw=>ZY name w (by omega)
 have c4:=λw=>BY text w (by omega)
 have e1:fv (VN a.aa name text dict)=.agg #[.string name,.int .i64 dict,.int .i64 (text.size:Int),.int .i64 (eA text text.size:Nat),.string (fD (V5 a.aa dict) text).1]:=rfl;rw[e1];rw[hp.1]at c2;unfold av at c1 |-
 have hbk:(fD (V5 a.aa dict) text).1.size<=513:=by have:=hp.2.2;omega
 generalize (fD (V5 a.aa dict) text).1=K at*;generalize V5 a.aa dict=X at*;generalize eA text text.size=M at*;generalize a.aa.length=D at*;generalize a.files.length=F at*;have ht':(text.size:Int)<=512:=by omega
 clear hx hp e1 hh hd;go_enter func65,ntmps65
 go_wp2_with fail
 refine mo (c1 _ _) λw1 G=>?_
 have hz:w.heap.size+1<w1.heap.size:=by have:=G.size;simp at this;omega
 have r:=λi=>(G.cell (p:=⟨w.heap.size+1,i,none⟩) (by simp)).trans ((gK w #[.slice ad D cd,.slice af F cf] #[.string ⟨#[]⟩,.int .i64 0,.int .i64 0,.int .i64 0,.string ⟨#[]⟩] 35 73).2 i)
 have fz:=λi=>(G.frozen (p:=⟨w.heap.size+1,i,none⟩) (by simp)).trans (fN _ _ _ _ (by simp))
 have B1:=ag (hb _ _) G;clear G c1 hb;go_wp2_with fail
 refine mo (c2 _) λw2 G2=>?_
 have B2:=ag B1 G2;have hz2:w.heap.size+1<w2.heap.size:=by have:=G2.size;omega
 have r2:=λi=>(G2.cell (p:=⟨w.heap.size+1,i,none⟩) hz).trans (r i)
 have Fo:=λi=>(G2.frozen (p:=⟨w.heap.size+1,i,none⟩) hz).trans (fz i)
 clear G2 r fz B1 c2;go_wp2_with fail
 refine mo (c3 _) λw3 G3=>?_
 have B3:=ag B2 G3;have r3:=λi=>(G3.cell (p:=⟨w.heap.size+1,i,none⟩) hz2).trans (r2 i)
 have fz3:=λi=>(G3.frozen (p:=⟨w.heap.size+1,i,none⟩) hz2).trans (Fo i)
 have hz3:w.heap.size+1<w3.heap.size:=by have:=G3.size;omega
 clear G3 r2 Fo B2 c3;go_wp2_with fail
 refine mo (c4 _) ?_;rintro w4 rfl;have r0:w4.cell? ⟨w.heap.size+1,0,none⟩=some (.string ⟨#[]⟩):=r3 0;have r1:w4.cell? ⟨w.heap.size+1,1,none⟩=some (.int .i64 0):=r3 1;have r2:w4.cell? ⟨w.heap.size+1,2,none⟩=some (.int .i64 0):=r3 2;have r4:w4.cell? ⟨w.heap.size+1,3,none⟩=some (.int .i64 0):=r3 3;have r5:w4.cell? ⟨w.heap.size+1,4,none⟩=some (.string ⟨#[]⟩):=r3 4;have y0:=fz3 0;have y1:=fz3 1;have y2:=fz3 2;have y3:=fz3 3;have y4:=fz3 4;clear r3 fz3 c4;go_wp2_with fail
 obtain⟨k0,k1,k2,k3,k4⟩:=ik (.string name) (.int .i64 dict) (.int .i64 (text.size:Int)) (.int .i64 (M:Int)) (.string K) r0 r1 r2 r4 r5;have B4:=vu B3 (w.heap.size+1) 0 (.string name) (.int .i64 dict) (.int .i64 (text.size:Int)) (.int .i64 (M:Int)) (.string K) (by omega);unfold fh at k0 k1 k2 k3 k4 B4;simp only[Nat.zero_add]at k0 k1 k2 k3 k4 B4;generalize (((((w4.setCell ⟨w.heap.size+1,0,none⟩ (.string name)).setCell ⟨w.heap.size+1,1,none⟩ (.int .i64 dict)).setCell ⟨w.heap.size+1,2,none⟩ (.int .i64 (text.size:Int))).setCell ⟨w.heap.size+1,3,none⟩ (.int .i64 (M:Int))).setCell ⟨w.heap.size+1,4,none⟩ (.string K))=wz at*;exact bodyPost_ret (v:=.tuple #[.agg #[.string name,.int .i64 dict,.int .i64 (text.size:Int),.int .i64 (M:Int),.string K],.int .i64 0]) (by simp[results,results65,go_sem,k0,k1,k2,k3,k4]) rfl ⟨rfl,B4⟩
theorem vv(w:World)(dT sT ty elem:TypeId)(g o dLen dCap:Nat)(a:Addr)(sLen sCap:Nat)(cur:Array Value)(t:TypeId)(cs:List Value)
 (hu:prog.underlying dT=some (.slice elem)) (hs:(prog.info? elem).map (·.size)=some 5)
 (hg:w.heap[g]?=some (.cells cur t (0,0))) (hn:cs.length=Nat.min sLen dLen*5)
 (hsrc:∀j v,cs[j]?=some v->w.cell? (a.add j)=some v) (hfit:o+cs.length<=cur.size) (h1:∀v∈cs,v.oneCell'=true) :
 (Builtin.copy_ #[dT,sT] ty #[.slice (some ⟨g,o,none⟩) dLen dCap,.slice (some a) sLen sCap]).run prog w =
  .ok (goInt (Nat.min sLen dLen)) (w.setRow g (cur.toList.take o++cs++cur.toList.drop (o+cs.length)).toArray):=by
 have hl:=run_loadCells_list (P:=prog) w a cs hsrc;have hst:=run_storeCells_at prog g o t cs 0 cur w hg (by simpa using hfit) h1
 cases hq:prog.info? elem with
 |none=>simp[hq]at hs
 |some i =>
  have hi:i.size=5:=by simpa[hq]using hs
  simp[Builtin.copy_,run_underlying hu,Builtin.lenOf,Builtin.firstCells,sizeOf,typeInfo,hq,hi,<-hn,hl,hst]
theorem sQ:∀fs:List Ar.F,∀v∈aw fs,v.oneCell'=true
 |[],v,h=>by cases h
 |f :: fs,v,h=>by
  rw[aw,List.mem_append]at h;rcases h with h|h
  ·exact cZ _ _ _ _ _ v h
  ·exact sQ fs v h
theorem vw:∀(fs:List Ar.F) (i:Nat),aw (fs.take i)=(aw fs).take (i*5)
 |[],i=>by simp[aw]
 |f :: fs,0=>by simp[aw]
 |f :: fs,i+1=>by
  rw[List.take_succ_cons,aw,aw,vw fs i,show(i+1)*5=[Value.string f.name,.int .i64 f.dict,.int .i64 f.size,.int .i64 f.sum,.string f.blk].length+i*5 by simp;omega,List.take_length_add_append]
theorem vy:∀(fs:List Ar.F) (i:Nat),aw (fs.drop i)=(aw fs).drop (i*5)
 |[],i=>by simp[aw]
 |f :: fs,0=>by simp[aw]
 |f :: fs,i+1=>by
  rw[List.drop_succ_cons,aw,vy fs i,show(i+1)*5=[Value.string f.name,.int .i64 f.dict,.int .i64 f.size,.int .i64 f.sum,.string f.blk].length+i*5 by simp;omega,List.drop_length_add_append]
theorem Pg{cs:List Value}(h1:l.take m=cs)(h2:m+5<=l.length)(h3:i<=m)(h4:nw.length=5) :
 let l1:=l.take (i+5)++cs.drop i++l.drop (i+5+(cs.drop i).length)
 (l1.take i++nw++l1.drop (i+nw.length)).length=l.length/\(l1.take i++nw++l1.drop (i+nw.length)).take (m+5)=cs.take i++nw++cs.drop i:=by
 intro l1;have hc:cs.length=m:=by rw[<-h1,List.length_take];omega
 have e1:l1.take i=cs.take i:=by
  rw[show l1=l.take (i+5)++(cs.drop i++l.drop (i+5+(cs.drop i).length)) from List.append_assoc ..];rw[List.take_append_of_le_length (by rw[List.length_take];omega),List.take_take,<-h1,List.take_take]
  congr 1
  omega
 have e2:l1.drop (i+nw.length)=cs.drop i++l.drop (m+5):=by
  rw[show l1=l.take (i+5)++(cs.drop i++l.drop (i+5+(cs.drop i).length)) from List.append_assoc ..];rw[h4,List.drop_append_of_le_length (by rw[List.length_take];omega),List.drop_of_length_le (by rw[List.length_take];omega),List.nil_append,List.length_drop,hc,show i+5+(m-i)=m+5 by omega]
 rw[e1,e2];constructor
 ·simp only[List.length_append,List.length_take,List.length_drop];omega
 ·rw[<-List.append_assoc,List.take_append_of_le_length (by simp only[List.length_append,List.length_take,List.length_drop];omega),List.take_of_length_le (by simp only[List.length_append,List.length_take,List.length_drop];omega)]
theorem Ph{cs z:List Value}(hc:cs.length=m)(h2:m+5<=(cs.take i++z).length)(h3:i<=m)(h4:nw.length=5) :
 let l:=cs.take i++z
 let l1:=l.take i++nw++l.drop (i+nw.length)
 (l1.take (i+5)++cs.drop i++l1.drop (i+5+(cs.drop i).length)).length=l.length/\(l1.take (i+5)++cs.drop i++l1.drop (i+5+(cs.drop i).length)).take (m+5)=cs.take i++nw++cs.drop i:=by
 intro l l1;have hi:(cs.take i).length=i:=by rw[List.length_take];omega
 have e0:l.take i=cs.take i:=by
  show(cs.take i++z).take i=_;rw[List.take_append_of_le_length (by omega),List.take_of_length_le (by omega)]
 have e1:l1.take (i+5)=cs.take i++nw:=by
  show(l.take i++nw++l.drop (i+nw.length)).take (i+5)=_;rw[e0,List.take_append_of_le_length (by simp only[List.length_append];omega),List.take_of_length_le (by simp only[List.length_append];omega)]
 have el:l1.length=l.length:=by
  show(l.take i++nw++l.drop (i+nw.length)).length=_;have:m+5<=l.length:=h2;simp only[List.length_append,List.length_take,List.length_drop];omega
 rw[e1];have hl:m+5<=l.length:=h2;constructor
 ·simp only[List.length_append,List.length_take,List.length_drop];omega
 ·rw[List.take_append_of_le_length (by simp only[List.length_append,List.length_take,List.length_drop];omega),List.take_of_length_le (by simp only[List.length_append,List.length_take,List.length_drop];omega)]
def fc(f:Ar.F):List Value:=[.string f.name,.int .i64 f.dict,.int .i64 f.size,.int .i64 f.sum,.string f.blk]
theorem Fp(fs:List Ar.F)(f:Ar.F)(i:Nat):aw (fs.take i++f :: fs.drop i)=(aw fs).take (i*5)++fc f++(aw fs).drop (i*5):=by
 rw[ZE,aw,vw,vy,List.append_assoc];rfl
def lO(lo:Nat)(fs:List Ar.F)(v2:Value)(w:World)(e:Ending)(w':World):Prop:=∃g cap,e=.returned (.slice (some ⟨g,0,none⟩) fs.length cap)/\w'.ownsRow lo 73 5 (.slice (some ⟨g,0,none⟩) fs.length cap) fs.length (aw fs)/\w.grownBy w' v2.ownBlock/\(v2.ownBlock=some g\/w.heap.size<=g)
theorem vz:(prog.info? 73).map (·.size)=some 5:=by kernel_rfl
theorem zJ{vb:Nat}{cs:List Value}(h:w.heap[vb]?=some (.cells cs.toArray t (0,0))):∀j u,cs[j]?=some u->w.cell? ((⟨vb,0,none⟩:Addr).add j)=some u:=by
 intro j u hj;rw[oy];simp only[World.cell?,h];simpa using hj
theorem iz(lo:Nat)(fs:List Ar.F)(f:Ar.F)(v2:Value)(vb:Nat)(t:TypeId)(w:World)(hown:w.ownsRow lo 73 5 v2 fs.length (aw fs))(hn:fs.length<=12)(hvb:w.heap[vb]?=some (.cells (fc f).toArray t (0,0)))(hlo:lo<=w.heap.size) :
 Calls prog 67 #[v2,.int .i64 (fs.length:Nat),.slice (some ⟨vb,0,none⟩) 1 1] w λe w'=>lO lo (fs++[f]) v2 w e w':=by
 obtain⟨j0,gi,ej,dX,ek⟩:=info_parts (P:=prog) (e:=73) (z:=.agg #[.string ⟨#[]⟩,.int .i64 0,.int .i64 0,.int .i64 0,.string ⟨#[]⟩]) (size:=5) (bytes:=56) (by kernel_rfl);have hnews:=zJ hvb
 have HE:Hid (∀g cap w',w'.ownsRow lo 73 5 (.slice (some ⟨g,0,none⟩) (fs.length+1) cap) (fs.length+1) (aw fs++fc f)->w.grownBy w' v2.ownBlock->(v2.ownBlock=some g\/g=w.heap.size)->lO lo (fs++[f]) v2 w (.returned (.slice (some ⟨g,0,none⟩) (fs.length+1) cap)) w'):=λg cap w' h1 h2 h3=>by
  refine⟨g,cap,by rw[List.length_append];rfl,?_,h2,h3.imp id (λe=>by omega)⟩;rw[List.length_append,ZE];exact h1
 clear hvb;generalize hN:fs.length=N at*;clear hN;rcases hown.2 with⟨rfl,rfl⟩|⟨g,cap,cur,rfl,h2,h3,h4,h5,h6,h7⟩
 ·go_enter func67,ntmps67
  go_wp2_with (first
   |(at_builtin;refine kd _ rfl _ _ 33 rfl lo 73 j0 (.agg #[.string ⟨#[]⟩,.int .i64 0,.int .i64 0,.int .i64 0,.string ⟨#[]⟩]) 5 56 eX gi ej dX ek rfl (by decide) _ _ _ rfl hown ⟨vb,0,none⟩ 1 1 (fc f) rfl rfl hnews (cZ _ _ _ _ _) (by decide) (by unfold maxLen;omega) (by omega) hlo _ rfl ?_;intro g cp w7 ay a7 aU bM;have hfin:=HE.out g cp w7 ay a7 aU;clear a7 ay aU bM)
   |fail)
  go_ret
  exact hfin
 ·have hNi:(N:Int)<=12:=by omega
  have hNc:(N:Int)<=(cap:Int):=by omega
  by_cases hce:cap=N
  ·subst hce;go_enter func67,ntmps67
   go_wp2_with (first
    |(at_builtin;refine kd _ rfl _ _ 33 rfl lo 73 j0 (.agg #[.string ⟨#[]⟩,.int .i64 0,.int .i64 0,.int .i64 0,.string ⟨#[]⟩]) 5 56 eX gi ej dX ek rfl (by decide) _ _ _ rfl hown ⟨vb,0,none⟩ 1 1 (fc f) rfl rfl hnews (cZ _ _ _ _ _) (by decide) (by unfold maxLen;omega) (by omega) hlo _ rfl ?_;intro g cp w7 ay a7 aU bM;have hfin:=HE.out g cp w7 ay a7 aU;clear a7 ay aU bM)
    |fail)
   go_ret
   exact hfin
  ·have zK:¬(cap:Int)=(N:Int):=by omega
   go_enter func67,ntmps67
   go_wp2_with (first
    |(at_builtin;refine kd _ rfl _ _ 33 rfl lo 73 j0 (.agg #[.string ⟨#[]⟩,.int .i64 0,.int .i64 0,.int .i64 0,.string ⟨#[]⟩]) 5 56 eX gi ej dX ek rfl (by decide) _ _ _ rfl hown ⟨vb,0,none⟩ 1 1 (fc f) rfl rfl hnews (cZ _ _ _ _ _) (by decide) (by unfold maxLen;omega) (by omega) hlo _ rfl ?_;intro g cp w7 ay a7 aU bM;have hfin:=HE.out g cp w7 ay a7 aU;clear a7 ay aU bM)
    |fail)
   go_ret
   exact hfin
theorem Fs(h:w.heap[g]?=some (.cells cur t (0,0))):w.shape? g=some (t,cur.size):=by simp[World.shape?,h]
theorem sS(h:w.heap[g]?=some (.cells cur t (0,0)))(o:Nat):w.frozen? ⟨g,o,none⟩=false:=by simp[World.frozen?,h]
theorem nV(h:w.heap[g]?=some (.cells cur t (0,0)))(o:Nat):w.cell? ⟨g,o,none⟩=cur[o]?:=by simp[World.cell?,h]
theorem qp(w:World)(g:Nat)(a:Array Value):w.grownBy (w.setRow g a) (some g):=by
 refine⟨rfl,rfl,rfl,by simp,λk hk hne=>?_⟩;exact setRow_other w g k a (λe=>hne (by rw[e]))
theorem Pj(lo:Nat)(fs:List Ar.F)(f:Ar.F)(g cap i:Nat)(cur:Array Value)(vb:Nat)(t:TypeId)(w:World)(hg:w.heap[g]?=some (.cells cur 73 (0,0)))(hlo:lo<=g)(hcap:cap<=maxLen)(hcur:cur.size=cap*5)(htk:cur.toList.take (fs.length*5)=aw fs)
 (hn:fs.length<=12) (hi:i<fs.length) (hroom:fs.length+1<=cap) (hvb:w.heap[vb]?=some (.cells (fc f).toArray t (0,0))) (hne:vb≠g) :
 Calls prog 67 #[.slice (some ⟨g,0,none⟩) fs.length cap,.int .i64 (i:Nat),.slice (some ⟨vb,0,none⟩) 1 1] w λe w'=>lO lo (fs.take i++f :: fs.drop i) (.slice (some ⟨g,0,none⟩) fs.length cap) w e w':=by
 have hfl:(fc f).length=5:=rfl;have hcl:=iF fs
 have hov:∀lb cb o,(callFunc 100 #[.slice (some ⟨vb,0,none⟩) 1 1,.slice (some ⟨g,o,none⟩) lb cb]).run prog w=.ok (.value (.bool false)) w:=λlb cb o=>by
  rw[run_callFunc_extern func100 (by kernel_rfl) (by kernel_rfl) (by kernel_rfl) (e:=Extern.SlicesOverlaps.overlaps #[33,33] #[4]) (by kernel_rfl),
   Lib.run_overlaps_apart w 33 4 73 eX 5 sizeOf73 ⟨vb,0,none⟩ ⟨g,o,none⟩ 1 1 lb cb hne t 73 5 cur.size (Fs hvb) (Fs hg) (by omega) (sS hvb 0) (sS hvb 5)]
  rfl
 obtain⟨aJ,bw⟩:∃aJ:Array Value,aJ=(cur.toList.take ((i*5+5))++(aw fs).drop (i*5)++cur.toList.drop ((i*5+5)+((aw fs).drop (i*5)).length)).toArray:=⟨_,rfl⟩
 obtain⟨bY,dH⟩:∃bY:Array Value,bY=(aJ.toList.take (i*5)++fc f++aJ.toList.drop (i*5+(fc f).length)).toArray:=⟨_,rfl⟩
 have hsz5:(fs.length+1)*5<=cur.size:=by rw[hcur];omega
 have gv:=Pg (l:=cur.toList) (cs:=aw fs) (nw:=fc f) (m:=fs.length*5) (i:=i*5) htk (by simp;omega) (by omega) hfl;simp only at gv;have hl1:aJ.toList=cur.toList.take ((i*5+5))++(aw fs).drop (i*5)++cur.toList.drop ((i*5+5)+((aw fs).drop (i*5)).length):=by rw[bw]
 rw[<-hl1]at gv;have hl2:bY.toList=aJ.toList.take (i*5)++fc f++aJ.toList.drop (i*5+(fc f).length):=by rw[dH]
 rw[<-hl2]at gv
 have hs1:aJ.size=cur.size:=by
  rw[<-Array.length_toList,hl1];simp only[List.length_append,List.length_take,List.length_drop,hcl,Array.length_toList];omega
 have hcp1:∀ty dc sc,(Builtin.copy_ #[33,33] ty #[.slice (some ⟨g,(i+1)*5,none⟩) (fs.length-i) dc,.slice (some ⟨g,i*5,none⟩) (fs.length+1-i) sc]).run prog w.drew=.ok (goInt ((fs.length-i:Nat):Int)) (w.drew.setRow g aJ):=λty dc sc=>by
  have hm:Nat.min (fs.length+1-i) (fs.length-i)=fs.length-i:=by simp only[Nat.min_def];split<;>omega
  have:=vv w.drew 33 33 ty 73 g ((i*5+5)) (fs.length-i) dc ⟨g,i*5,none⟩ (fs.length+1-i) sc cur 73 ((aw fs).drop (i*5)) eX vz hg (by rw[hm,List.length_drop,hcl];omega)
   (λj v hj=>by
    rw[Go.WideShapes.add_plain];show w.cell? ⟨g,i*5+j,none⟩=some v;rw[nV hg,<-Array.getElem?_toList];rw[List.getElem?_drop,<-htk,List.getElem?_take]at hj;split at hj
    ·exact hj
    ·cases hj)
   (by rw[List.length_drop,hcl];omega) (λv hv=>sQ fs v (List.mem_of_mem_drop hv))
  rw[hm,<-bw]at this;rw[show(i+1)*5=i*5+5 by omega];exact this
 have hg1:=setRow_heap w.drew g cur aJ _ _ hg;have hv1:=(setRow_other w.drew g vb aJ hne).trans hvb
 have hcp2:∀ty dc,(Builtin.copy_ #[33,33] ty #[.slice (some ⟨g,i*5,none⟩) (fs.length+1-i) dc,.slice (some ⟨vb,0,none⟩) 1 1]).run prog (w.drew.setRow g aJ)=.ok (goInt 1) ((w.drew.setRow g aJ).setRow g bY):=λty dc=>by
  have hm:Nat.min 1 (fs.length+1-i)=1:=by simp only[Nat.min_def];split<;>omega
  have:=vv (w.drew.setRow g aJ) 33 33 ty 73 g (i*5) (fs.length+1-i) dc ⟨vb,0,none⟩ 1 1 aJ 73 (fc f) eX vz hg1 (by rw[hm];rfl) (zJ hv1) (by rw[hfl,hs1];omega) (cZ _ _ _ _ _);rw[hm,<-dH]at this;exact this
 have hfin:lO lo (fs.take i++f :: fs.drop i) (.slice (some ⟨g,0,none⟩) fs.length cap) w (.returned (.slice (some ⟨g,0,none⟩) (fs.length+1) cap)) ((w.drew.setRow g aJ).setRow g bY):=by
  have hlen:(fs.take i++f :: fs.drop i).length=fs.length+1:=by rw[List.length_append,List.length_cons,List.length_take,List.length_drop];omega
  refine⟨g,cap,by rw[hlen],?_,?_,.inl rfl⟩
  ·rw[hlen];refine⟨by rw[iF,hlen],.inr ⟨g,cap,bY,rfl,hlo,setRow_heap _ g aJ bY _ _ hg1,hroom,hcap,?_,?_⟩⟩
   ·rw[<-hcur,<-Array.length_toList,gv.1,Array.length_toList]
   ·rw[show(fs.length+1)*5=fs.length*5+5 by omega,gv.2,Fp]
  ·have a1:=qp w.drew g aJ;have a2:=qp (w.drew.setRow g aJ) g bY
   have a0:w.grownBy w.drew (some g):=⟨rfl,rfl,rfl,nl _,λ_ _ _=>rfl⟩
   exact(a0.trans a1).trans a2
 clear hl1 hl2 bw dH gv htk hcl hcur hsz5 hs1 hg hvb hg1 hv1 hfl;generalize (lO lo (fs.take i++f :: fs.drop i) (.slice (some ⟨g,0,none⟩) fs.length cap) w)=Q at*;generalize fs.length=N at*;have hz2:¬((i:Int)=(N:Int)):=by omega
 have hz3:¬(cap:Int)<(N:Int)+1:=by omega
 have hb3:(i:Int)<=(N:Int)+1:=by omega
 have Pk:¬cap=i:=by omega
 have hcN1:¬cap=i+1:=by omega
 have hNi:(N:Int)<=12:=by omega
 have hii:(i:Int)<(N:Int):=by omega
 have hcm:(cap:Int)<=9223372036854775807:=by unfold maxLen at hcap;omega
 have hroom':(N:Int)+1<=(cap:Int):=by omega
 have hw1:IntKind.i64.wrap ((i:Int)+1)=(i:Int)+1:=by rw[IntKind.wrap_i64];omega
 have hb1:(0:Int)<=(i:Int)+1:=by omega
 have htn:((i:Int)+1).toNat=i+1:=by omega
 have hin1:(i:Int)+1<=(N:Int)+1:=by omega
 have hin2:i<=N:=by omega
 have zL:i<=N+1:=by omega
 have zM:i+1<=N+1:=by omega
 go_enter func67,ntmps67
 go_wp2_with (simp only[hov])
 go_region_law (refine step_copy_runI rfl _ _ 33 33 rfl _ _ (by simp[Act.eval,Act.put]) (by simp[Act.eval,Act.put]) (hcp1 _ _ _) ?_)
 go_wp2_with (first
  |(at_builtin;refine wpList_copy_runI _ rfl _ _ 33 33 rfl _ _ rfl rfl (hcp2 _ _) ?_)
  |fail)
 exact hfin
theorem Pl(n:Nat):(Builtin.zeroCells (Value.agg #[.string ⟨#[]⟩,.int .i64 0,.int .i64 0,.int .i64 0,.string ⟨#[]⟩]).cells n).size=n*5:=by
 simp[Builtin.zeroCells,Value.cells]
theorem Pm(lo:Nat)(fs:List Ar.F)(f:Ar.F)(g i:Nat)(cur:Array Value)(vb:Nat)(t:TypeId)(w:World)(hg:w.heap[g]?=some (.cells cur 73 (0,0)))(hlo:lo<=w.heap.size)(hcur:cur.size=fs.length*5)(htk:cur.toList.take (fs.length*5)=aw fs)
 (hn:fs.length<=12) (hi:i<fs.length) (hvb:w.heap[vb]?=some (.cells (fc f).toArray t (0,0))) :
 Calls prog 67 #[.slice (some ⟨g,0,none⟩) fs.length fs.length,.int .i64 (i:Nat),.slice (some ⟨vb,0,none⟩) 1 1] w λe w'=>lO lo (fs.take i++f :: fs.drop i) (.slice (some ⟨g,0,none⟩) fs.length fs.length) w e w':=by
 obtain⟨j0,gi,ej,dX,ek⟩:=info_parts (P:=prog) (e:=73) (z:=.agg #[.string ⟨#[]⟩,.int .i64 0,.int .i64 0,.int .i64 0,.string ⟨#[]⟩]) (size:=5) (bytes:=56) (by kernel_rfl);have hfl:(fc f).length=5:=rfl;have hcl:=iF fs;have hgl:=Array.getElem?_eq_some_iff.mp hg |>.1
 have hvl:=Array.getElem?_eq_some_iff.mp hvb |>.1
 have hcells:∀(W:World) (o:Nat),(∀j,W.cell? ⟨g,j,none⟩=w.cell? ⟨g,j,none⟩)->∀j v,((aw fs).drop o)[j]?=some v->W.cell? ((⟨g,o,none⟩:Addr).add j)=some v:=λW o hW j v hj=>by
  rw[Go.WideShapes.add_plain,hW,nV hg,<-Array.getElem?_toList];rw[List.getElem?_drop,<-htk,List.getElem?_take]at hj;split at hj
  ·exact hj
  ·cases hj
 have hkk:(fs.length:Int)+1-(i:Int)=((fs.length+1-i:Nat):Int):=by omega
 have hik:i+(fs.length+1-i)=fs.length+1:=by omega
 obtain⟨G,hG⟩:∃G,G=grownCap w (fs.length+1) fs.length 73:=⟨_,rfl⟩
 obtain⟨Z,hZ⟩:∃Z:List Value,Z=(Builtin.zeroCells (Value.agg #[.string ⟨#[]⟩,.int .i64 0,.int .i64 0,.int .i64 0,.string ⟨#[]⟩]).cells (fs.length+1-i)++Builtin.zeroCells (Value.agg #[.string ⟨#[]⟩,.int .i64 0,.int .i64 0,.int .i64 0,.string ⟨#[]⟩]).cells (G-(fs.length+1))).toList:=⟨_,rfl⟩
 obtain⟨ROW,hROW⟩:∃ROW:Array Value,ROW=((aw fs).take (i*5)).toArray++Builtin.zeroCells (Value.agg #[.string ⟨#[]⟩,.int .i64 0,.int .i64 0,.int .i64 0,.string ⟨#[]⟩]).cells (fs.length+1-i)++Builtin.zeroCells (Value.agg #[.string ⟨#[]⟩,.int .i64 0,.int .i64 0,.int .i64 0,.string ⟨#[]⟩]).cells (G-(fs.length+1)):=⟨_,rfl⟩
 have hRl:ROW.toList=(aw fs).take (i*5)++Z:=by rw[hROW,hZ];simp
 have hGn:fs.length+1<=G:=by rw[hG];exact grownCap_ge w _ _ _
 have Ft:G<=maxLen:=by rw[hG];exact grownCap_le_maxLen w _ _ _ (by unfold maxLen;omega)
 have hRs:ROW.size=G*5:=by
  rw[hROW];simp only[Array.size_append,Pl,List.size_toArray,List.length_take,hcl];omega
 have hrz:∀ty,(Builtin.append_ #[33,3] ty #[.slice (some ⟨g,0,none⟩) i fs.length,.int .i64 ((fs.length:Int)+1-(i:Int))]).run prog w =
  .ok (.slice (some ⟨w.heap.size,0,none⟩) (fs.length+1) G) (w.drew.alloc (.cells ROW 73)):=λty=>by
  have hold:(Builtin.firstCells j0.size i (.slice (some ⟨g,0,none⟩) i fs.length)).run prog w.drew=.ok ((aw fs).take (i*5)).toArray w.drew:=by
   rw[dX]
   exact run_firstCells_some w.drew 5 i ⟨g,0,none⟩ i fs.length ((aw fs).take (i*5)) (by rw[List.length_take,hcl];omega) (λj v hj=>by
    rw[List.getElem?_take]at hj;split at hj
    ·exact hcells w.drew 0 (λ_=>rfl) j v hj
    ·cases hj)
  have h:=Lib.run_append_grow_zeros w 33 3 ty 73 j0 _ .i64 .i64 eX fw gi ej (some ⟨g,0,none⟩) i fs.length ((aw fs).take (i*5)) hold (fs.length+1-i) (by omega) (by omega) (by omega) (by omega) (by rw[ek];omega) (by rw[ek,hik];exact growslice_fits (by omega) (by omega));rw[hik,<-hG,<-hROW]at h;rw[hkk];exact h
 obtain⟨aJ,bw⟩:∃aJ:Array Value,aJ=(ROW.toList.take (i*5)++fc f++ROW.toList.drop (i*5+(fc f).length)).toArray:=⟨_,rfl⟩
 obtain⟨bY,dH⟩:∃bY:Array Value,bY=(aJ.toList.take (i*5+5)++(aw fs).drop (i*5)++aJ.toList.drop (i*5+5+((aw fs).drop (i*5)).length)).toArray:=⟨_,rfl⟩
 have hRL:ROW.toList.length=G*5:=by rw[Array.length_toList,hRs]
 have gv:=Ph (cs:=aw fs) (nw:=fc f) (z:=Z) (m:=fs.length*5) (i:=i*5) hcl (by rw[<-hRl];omega) (by omega) hfl;simp only at gv;rw[<-hRl]at gv;have hl1:aJ.toList=ROW.toList.take (i*5)++fc f++ROW.toList.drop (i*5+(fc f).length):=by rw[bw]
 rw[<-hl1]at gv;have hl2:bY.toList=aJ.toList.take (i*5+5)++(aw fs).drop (i*5)++aJ.toList.drop (i*5+5+((aw fs).drop (i*5)).length):=by rw[dH]
 rw[<-hl2]at gv
 have hs1:aJ.size=G*5:=by
  rw[<-Array.length_toList,hl1];simp only[List.length_append,List.length_take,List.length_drop,Array.length_toList,hRs,hfl];omega
 obtain⟨W1,hW1⟩:∃W1,W1=(w.alloc (.cells ROW 73)).drew:=⟨_,rfl⟩
 have hg1:W1.heap[w.heap.size]?=some (.cells ROW 73 (0,0)):=by
  rw[hW1];show(w.heap.push _)[w.heap.size]?=_;rw[Array.getElem?_push_size]
 have hother:∀k,k<w.heap.size->W1.heap[k]?=w.heap[k]?:=λk hk=>by
  rw[hW1];show(w.heap.push _)[k]?=_;rw[Array.getElem?_push,ab (by omega)]
 have hv1:=(hother vb hvl).trans hvb
 have hcp1:∀ty dc,(Builtin.copy_ #[33,33] ty #[.slice (some ⟨w.heap.size,i*5,none⟩) (fs.length+1-i) dc,.slice (some ⟨vb,0,none⟩) 1 1]).run prog W1=.ok (goInt 1) (W1.setRow w.heap.size aJ):=λty dc=>by
  have hm:Nat.min 1 (fs.length+1-i)=1:=by simp only[Nat.min_def];split<;>omega
  have:=vv W1 33 33 ty 73 w.heap.size (i*5) (fs.length+1-i) dc ⟨vb,0,none⟩ 1 1 ROW 73 (fc f) eX vz hg1 (by rw[hm];rfl) (zJ hv1) (by rw[hfl,hRs];omega) (cZ _ _ _ _ _);rw[hm,<-bw]at this;exact this
 obtain⟨W2,hW2⟩:∃W2,W2=(W1.setRow w.heap.size aJ).drew:=⟨_,rfl⟩
 have hg2:W2.heap[w.heap.size]?=some (.cells aJ 73 (0,0)):=by rw[hW2];exact setRow_heap W1 w.heap.size ROW aJ _ _ hg1
 have sU:W2.heap[g]?=w.heap[g]?:=by rw[hW2];exact(setRow_other W1 w.heap.size g aJ (by omega)).trans (hother g hgl)
 have hcp2:∀ty dc sc,(Builtin.copy_ #[33,33] ty #[.slice (some ⟨w.heap.size,(i+1)*5,none⟩) (fs.length-i) dc,.slice (some ⟨g,i*5,none⟩) (fs.length-i) sc]).run prog W2=.ok (goInt ((fs.length-i:Nat):Int)) (W2.setRow w.heap.size bY):=λty dc sc=>by
  have hm:Nat.min (fs.length-i) (fs.length-i)=fs.length-i:=by simp only[Nat.min_def];split<;>omega
  have:=vv W2 33 33 ty 73 w.heap.size (i*5+5) (fs.length-i) dc ⟨g,i*5,none⟩ (fs.length-i) sc aJ 73 ((aw fs).drop (i*5)) eX vz hg2 (by rw[hm,List.length_drop,hcl];omega)
   (hcells W2 (i*5) (λj=>by rw[nV (sU.trans hg),nV hg]))
   (by rw[List.length_drop,hcl,hs1];omega) (λv hv=>sQ fs v (List.mem_of_mem_drop hv))
  rw[hm,<-dH]at this;rw[show(i+1)*5=i*5+5 by omega];exact this
 have hfin:lO lo (fs.take i++f :: fs.drop i) (.slice (some ⟨g,0,none⟩) fs.length fs.length) w (.returned (.slice (some ⟨w.heap.size,0,none⟩) (fs.length+1) G)) (W2.setRow w.heap.size bY):=by
  have hlen:(fs.take i++f :: fs.drop i).length=fs.length+1:=by rw[List.length_append,List.length_cons,List.length_take,List.length_drop];omega
  refine⟨w.heap.size,G,by rw[hlen],?_,?_,.inr (nl _)⟩
  ·rw[hlen];refine⟨by rw[iF,hlen],.inr ⟨w.heap.size,G,bY,rfl,hlo,setRow_heap _ _ aJ bY _ _ hg2,hGn,Ft,?_,?_⟩⟩
   ·rw[<-hRs,<-Array.length_toList,gv.1,Array.length_toList]
   ·rw[show(fs.length+1)*5=fs.length*5+5 by omega,gv.2,Fp]
  ·refine⟨by rw[hW2,hW1];rfl,by rw[hW2,hW1];rfl,by rw[hW2,hW1];rfl,?_,λk hk hne=>?_⟩
   ·rw[hW2,hW1];refine nt ?_ ((qp _ _ _).4);refine nt ?_ ((qp (w.alloc (.cells ROW 73)).drew w.heap.size aJ).4);show w.heap.size<=(w.heap.push _).size;rw[Array.size_push];omega
   ·rw[setRow_other W2 w.heap.size k bY (by omega),hW2];exact(setRow_other W1 w.heap.size k aJ (by omega)).trans (hother k hk)
 subst hW2;subst hW1;have hneg:g≠w.heap.size:=by omega
 clear hl1 hl2 bw dH gv htk hcl hcur hs1 hg hvb hg1 hv1 hfl hcells hother hg2 sU hRs hRl hRL hZ hROW hG hkk hik;generalize (lO lo (fs.take i++f :: fs.drop i) (.slice (some ⟨g,0,none⟩) fs.length fs.length) w)=Q at*;generalize fs.length=N at*;have hz2:¬((i:Int)=(N:Int)):=by omega
 have hz3:(N:Int)<(N:Int)+1:=by omega
 have hb3:(i:Int)<=(N:Int):=by omega
 have Pk:¬N=i:=by omega
 have hGi:¬G=i:=by omega
 have Pn:¬G=i+1:=by omega
 have hNi:(N:Int)<=12:=by omega
 have hii:(i:Int)<(N:Int):=by omega
 have hcm:(G:Int)<=9223372036854775807:=by unfold maxLen at Ft;omega
 have Po:(N:Int)+1<=(G:Int):=by omega
 have hw1:IntKind.i64.wrap ((i:Int)+1)=(i:Int)+1:=by rw[IntKind.wrap_i64];omega
 have hb1:(0:Int)<=(i:Int)+1:=by omega
 have htn:((i:Int)+1).toNat=i+1:=by omega
 have hin1:(i:Int)+1<=(N:Int)+1:=by omega
 have hin2:i<=N:=by omega
 have zL:i<=N+1:=by omega
 have zM:i+1<=N+1:=by omega
 go_enter func67,ntmps67
 go_wp2_with (first
  |(at_builtin;refine Lib.wpList_append_run _ rfl _ _ _ _ rfl _ _ rfl rfl _ _ (hrz _) ?_)
  |(at_builtin;refine wpList_copy_runI _ rfl _ _ 33 33 rfl _ _ rfl rfl (hcp1 _ _) ?_)
  |(at_builtin;refine wpList_copy_runI _ rfl _ _ 33 33 rfl _ _ rfl rfl (hcp2 _ _ _) ?_)
  |fail)
 go_region_law (refine step_copy_runI rfl _ _ 33 33 rfl _ _ (by simp[Act.eval,Act.put]) (by simp[Act.eval,Act.put]) (hcp2 _ _ _) ?_)
 go_wp2
 exact hfin
theorem Pp(lo:Nat)(fs:List Ar.F)(f:Ar.F)(v2:Value)(i vb:Nat)(t:TypeId)(w:World)(hown:w.ownsRow lo 73 5 v2 fs.length (aw fs))(hn:fs.length<=12)(hi:i<=fs.length)(hvb:w.heap[vb]?=some (.cells (fc f).toArray t (0,0)))(hne:v2.ownBlock≠some vb)(hlo:lo<=w.heap.size) :
 Calls prog 67 #[v2,.int .i64 (i:Nat),.slice (some ⟨vb,0,none⟩) 1 1] w λe w'=>lO lo (fs.take i++f :: fs.drop i) v2 w e w':=by
 by_cases he:i=fs.length
 ·subst he;rw[List.take_of_length_le (Nat.le_refl _),List.drop_of_length_le (Nat.le_refl _)];exact iz lo fs f v2 vb t w hown hn hvb hlo
 ·rcases hown.2 with⟨rfl,h0⟩|⟨g,cap,cur,rfl,h2,h3,h4,h5,h6,h7⟩
  ·omega
  ·by_cases hr:fs.length+1<=cap
   ·exact Pj lo fs f g cap i cur vb t w h3 h2 h5 h6 h7 hn (by omega) hr hvb (λe=>hne (by rw[e];rfl))
   ·obtain rfl:cap=fs.length:=by omega
    exact Pm lo fs f g i cur vb t w h3 hlo h6 h7 hn (by omega) hvb
def ah(w:World)(a:Ar.A)(E:Int)(e:Ending)(w':World):Prop:=∃v1 v2,e=.returned (.tuple #[.agg #[v1,v2],.int .i64 E])/\aD w.heap.size w' v1 v2 a/\ae w w'
theorem zN(lo:Nat)(w:World):aD lo w (.slice none 0 0) (.slice none 0 0) VC:=⟨⟨rfl,.inl ⟨rfl,rfl⟩⟩,⟨rfl,.inl ⟨rfl,rfl⟩⟩,λj hj=>by simp[Value.ownBlock]at hj⟩
theorem ZC{E:Int}(h:ae w w'):ah w VC E (.returned (.tuple #[.agg #[.slice none 0 0,.slice none 0 0],.int .i64 E])) w':=⟨_,_,rfl,zN _ _,h⟩
structure Fr(w w':World)(x y:Value):Prop where
 b:ae w w'
 a0:w'.cell? ⟨w.heap.size,0,none⟩=some x
 a1:w'.cell? ⟨w.heap.size,1,none⟩=some y
 r0:w'.cell? ⟨w.heap.size+1,0,none⟩=some (.slice none 0 0)
 r1:w'.cell? ⟨w.heap.size+1,1,none⟩=some (.slice none 0 0)
 z0:w'.frozen? ⟨w.heap.size+1,0,none⟩=false
 z1:w'.frozen? ⟨w.heap.size+1,1,none⟩=false
 hz:w.heap.size+1<w'.heap.size
theorem Fr.next{w2:World}(h:Fr w w' x y)(G:ae w' w2):Fr w w2 x y:=by
 have h1:w.heap.size<w'.heap.size:=by have:=h.hz;omega
 exact⟨ag h.b G,(G.cell (p:=⟨w.heap.size,0,none⟩) h1).trans h.a0,(G.cell (p:=⟨w.heap.size,1,none⟩) h1).trans h.a1,(G.cell (p:=⟨w.heap.size+1,0,none⟩) h.hz).trans h.r0,(G.cell (p:=⟨w.heap.size+1,1,none⟩) h.hz).trans h.r1,
  (G.frozen (p:=⟨w.heap.size+1,0,none⟩) h.hz).trans h.z0,(G.frozen (p:=⟨w.heap.size+1,1,none⟩) h.hz).trans h.z1,nT h.hz G.size⟩
theorem Fr.start(w:World)(x y:Value):Fr w ((w.alloc (.cells #[x,y] 35 (0,0))).alloc (.cells #[.slice none 0 0,.slice none 0 0] 35 (0,0))) x y:=by
 obtain⟨k1,k2⟩:=gK w #[x,y] #[.slice none 0 0,.slice none 0 0] 35 35;refine⟨((bR _ _).alloc (nl _) _).alloc (by simp) _,k1 0,k1 1,k2 0,k2 1,?_,?_,by simp⟩
 ·exact fN _ _ _ _ (by simp)
 ·exact fN _ _ _ _ (by simp)
theorem Fr.zero(h:Fr w w' x y):(w'.setCell ⟨w.heap.size+1,0,none⟩ (.slice none 0 0)).setCell ⟨w.heap.size+1,1,none⟩ (.slice none 0 0)=w':=by
 rw[Zd h.r0,Zd h.r1]
theorem Pq(ad af:Option Addr)(cd cf:Nat)(a:Ar.A)(name text:ByteArray)(dict:Int)(w:World)(h:bo w ad af a)(hs:ao a)(hc:Vz a≠0) :
 Calls prog 33 #[av ad cd af cf a,.string name,.string text,.int .i64 dict] w λe w'=>ah w VC (Vz a) e w':=by
 have C1:=Za λw' (h9:ae w w')=>Zm ad af cd cf a w' (h.below h9) hs
 have hQ:Hid (∀w',ae w w'->ah w VC (Vz a) (.returned (.tuple #[.agg #[.slice none 0 0,.slice none 0 0],.int .i64 (Vz a)])) w'):=λw' h9=>ZC h9
 generalize ah w VC (Vz a)=Q at*;unfold av at C1 |-
 generalize Vz a=E at*;generalize a.aa.length=D at*;generalize a.files.length=N at*;have e1:(E != 0)=true:=by simpa using hc
 have e2:(E==0)=false:=by simpa using hc
 clear h hs;go_enter func33,ntmps33
 go_wp2_with fail
 refine mo (C1.out _ (Fr.start w _ _).b) λw1 G1=>?_
 have F1:=(Fr.start w _ _).next G1;clear G1;obtain⟨b,a0,a1,r0,r1,z0,z1,hz⟩:=id F1;go_wp2_with fail
 rw[F1.zero];exact bodyPost_ret (v:=.tuple #[.agg #[.slice none 0 0,.slice none 0 0],.int .i64 E]) (by simp[results,results33,go_sem,F1.r0,F1.r1]) rfl (hQ.out _ F1.b)
theorem Pr(ad af:Option Addr)(cd cf:Nat)(a:Ar.A)(name text:ByteArray)(dict:Int)(w:World)(h:bo w ad af a)(hs:ao a)(hn:name.size<=140737488355328)(hc:Vz a=0)(hm:bI name=false) :
 Calls prog 33 #[av ad cd af cf a,.string name,.string text,.int .i64 dict] w λe w'=>ah w VC 4 e w':=by
 have C1:=Za λw' (h9:ae w w')=>Zm ad af cd cf a w' (h.below h9) hs
 have C2:=Za λw'=>oQ name w' hn
 have hQ:Hid (∀w',ae w w'->ah w VC 4 (.returned (.tuple #[.agg #[.slice none 0 0,.slice none 0 0],.int .i64 4])) w'):=λw' h9=>ZC h9
 generalize ah w VC 4=Q at*;rw[hc]at C1;rw[hm]at C2;unfold av at C1 |-
 generalize a.aa.length=D at*;generalize a.files.length=N at*;clear h hs hn hc hm;go_enter func33,ntmps33
 go_wp2_with fail
 refine mo (C1.out _ (Fr.start w _ _).b) λw1 G1=>?_
 have F1:=(Fr.start w _ _).next G1;clear G1;obtain⟨b,a0,a1,r0,r1,z0,z1,hz⟩:=id F1;go_wp2_with fail
 refine mo (C2.out _) ?_;rintro w2 rfl;go_wp2_with fail
 rw[F1.zero];exact bodyPost_ret (v:=.tuple #[.agg #[.slice none 0 0,.slice none 0 0],.int .i64 4]) (by simp[results,results33,go_sem,F1.r0,F1.r1]) rfl (hQ.out _ F1.b)
theorem Ps(ad af:Option Addr)(cd cf:Nat)(a:Ar.A)(name text:ByteArray)(dict:Int)(w:World)(h:bo w ad af a)(hs:ao a)(hn:name.size<=140737488355328)(hc:Vz a=0)(hm:bI name=true)(hd:VY a.aa dict=false) :
 Calls prog 33 #[av ad cd af cf a,.string name,.string text,.int .i64 dict] w λe w'=>ah w VC 3 e w':=by
 have C1:=Za λw' (h9:ae w w')=>Zm ad af cd cf a w' (h.below h9) hs
 have C2:=Za λw'=>oQ name w' hn
 have C3:=Za λw'=>qg ad af cd cf a dict w' hs.nd
 have hQ:Hid (∀w',ae w w'->ah w VC 3 (.returned (.tuple #[.agg #[.slice none 0 0,.slice none 0 0],.int .i64 3])) w'):=λw' h9=>ZC h9
 generalize ah w VC 3=Q at*;rw[hc]at C1;rw[hm]at C2;rw[hd]at C3;unfold av at C1 C3 |-
 generalize a.aa.length=D at*;generalize a.files.length=N at*;clear h hs hn hc hm hd;go_enter func33,ntmps33
 go_wp2_with fail
 refine mo (C1.out _ (Fr.start w _ _).b) λw1 G1=>?_
 have F1:=(Fr.start w _ _).next G1;clear G1;obtain⟨b,a0,a1,r0,r1,z0,z1,hz⟩:=id F1;go_wp2_with fail
 refine mo (C2.out _) ?_;rintro w2 rfl;go_wp2_with fail
 refine mo (C3.out _) λw3 G3=>?_
 clear b a0 a1 r0 r1 z0 z1 hz;have F3:=F1.next G3;clear G3;obtain⟨b,a0,a1,r0,r1,z0,z1,hz⟩:=id F3;go_wp2_with fail
 rw[F3.zero];exact bodyPost_ret (v:=.tuple #[.agg #[.slice none 0 0,.slice none 0 0],.int .i64 3]) (by simp[results,results33,go_sem,F3.r0,F3.r1]) rfl (hQ.out _ F3.b)
theorem Pt(ad af:Option Addr)(cd cf:Nat)(a:Ar.A)(name text:ByteArray)(dict:Int)(w:World)(h:bo w ad af a)(hs:ao a)(hn:name.size<=140737488355328)(ht:text.size<=140737488355328)(hc:Vz a=0)(hm:bI name=true)(hd:VY a.aa dict=true)(hl:512<text.size) :
 Calls prog 33 #[av ad cd af cf a,.string name,.string text,.int .i64 dict] w λe w'=>ah w VC 2 e w':=by
 have C1:=Za λw' (h9:ae w w')=>Zm ad af cd cf a w' (h.below h9) hs
 have C2:=Za λw'=>oQ name w' hn
 have C3:=Za λw'=>qg ad af cd cf a dict w' hs.nd
 have hsr:=Xk hc;obtain⟨m1,m2,m3⟩:=Zj.1 (VV.1 hc).1;have C4:=Za λw' (h9:ae w w')=>oX ad af cd cf a name w' (h.fs.below h9) (by omega) hsr
 have hQ:Hid (∀w',ae w w'->ah w VC 2 (.returned (.tuple #[.agg #[.slice none 0 0,.slice none 0 0],.int .i64 2])) w'):=λw' h9=>ZC h9
 generalize ah w VC 2=Q at*;rw[hc]at C1;rw[hm]at C2;rw[hd]at C3;have hp:=Yg a.files name;generalize VG a.files name=p at*;generalize ZI a.files name=T at*;unfold av at C1 C3 C4 |-
 clear h hs hn hc hm hd hsr m3;generalize a.aa.length=D at*;generalize a.files.length=N at*;have hl':(512:Int)<(text.size:Int):=by omega
 have d1:=al hl';go_enter func33,ntmps33
 go_wp2_with fail
 refine mo (C1.out _ (Fr.start w _ _).b) λw1 G1=>?_
 have F1:=(Fr.start w _ _).next G1;clear G1;obtain⟨b,a0,a1,r0,r1,z0,z1,hz⟩:=id F1;go_wp2_with fail
 refine mo (C2.out _) ?_;rintro w2 rfl;go_wp2_with fail
 refine mo (C3.out _) λw3 G3=>?_
 clear b a0 a1 r0 r1 z0 z1 hz;have F3:=F1.next G3;clear G3;obtain⟨b,a0,a1,r0,r1,z0,z1,hz⟩:=id F3;go_wp2_with fail
 refine mo (C4.out _ F3.b) λw4 G4=>?_
 clear b a0 a1 r0 r1 z0 z1 hz;have F4:=F3.next G4;clear G4;obtain⟨b,a0,a1,r0,r1,z0,z1,hz⟩:=id F4;go_wp2_with fail
 rw[F4.zero];exact bodyPost_ret (v:=.tuple #[.agg #[.slice none 0 0,.slice none 0 0],.int .i64 2]) (by simp[results,results33,go_sem,F4.r0,F4.r1]) rfl (hQ.out _ F4.b)
theorem Pu(ad af:Option Addr)(cd cf:Nat)(a:Ar.A)(name text:ByteArray)(dict:Int)(w:World)(h:bo w ad af a)(hs:ao a)(hn:name.size<=140737488355328)(hc:Vz a=0)(hm:bI name=true)(hd:VY a.aa dict=true)(hl:text.size<=512)(hT:ZI a.files name=false)(hF:a.files.length=12) :
 Calls prog 33 #[av ad cd af cf a,.string name,.string text,.int .i64 dict] w λe w'=>ah w VC 2 e w':=by
 have C1:=Za λw' (h9:ae w w')=>Zm ad af cd cf a w' (h.below h9) hs
 have C2:=Za λw'=>oQ name w' hn
 have C3:=Za λw'=>qg ad af cd cf a dict w' hs.nd
 have hsr:=Xk hc;obtain⟨m1,m2,m3⟩:=Zj.1 (VV.1 hc).1;have C4:=Za λw' (h9:ae w w')=>oX ad af cd cf a name w' (h.fs.below h9) (by omega) hsr
 have hQ:Hid (∀w',ae w w'->ah w VC 2 (.returned (.tuple #[.agg #[.slice none 0 0,.slice none 0 0],.int .i64 2])) w'):=λw' h9=>ZC h9
 generalize ah w VC 2=Q at*;rw[hc]at C1;rw[hm]at C2;rw[hd]at C3;rw[hT]at C4;have hp:=Yg a.files name;generalize VG a.files name=p at*;unfold av at C1 C3 C4 |-
 clear h hs hn hc hm hd hsr m3 hT;rw[hF]at C1 C3 C4 |-
 generalize a.aa.length=D at*;have hl':¬(512:Int)<(text.size:Int):=by omega
 have d1:=dF hl';go_enter func33,ntmps33
 go_wp2_with fail
 refine mo (C1.out _ (Fr.start w _ _).b) λw1 G1=>?_
 have F1:=(Fr.start w _ _).next G1;clear G1;obtain⟨b,a0,a1,r0,r1,z0,z1,hz⟩:=id F1;go_wp2_with fail
 refine mo (C2.out _) ?_;rintro w2 rfl;go_wp2_with fail
 refine mo (C3.out _) λw3 G3=>?_
 clear b a0 a1 r0 r1 z0 z1 hz;have F3:=F1.next G3;clear G3;obtain⟨b,a0,a1,r0,r1,z0,z1,hz⟩:=id F3;go_wp2_with fail
 refine mo (C4.out _ F3.b) λw4 G4=>?_
 clear b a0 a1 r0 r1 z0 z1 hz;have F4:=F3.next G4;clear G4;obtain⟨b,a0,a1,r0,r1,z0,z1,hz⟩:=id F4;go_wp2_with fail
 rw[F4.zero];exact bodyPost_ret (v:=.tuple #[.agg #[.slice none 0 0,.slice none 0 0],.int .i64 2]) (by simp[results,results33,go_sem,F4.r0,F4.r1]) rfl (hQ.out _ F4.b)
theorem Fu:∀(fs:List Ar.F) (i:Nat) (f:Ar.F),i<fs.length->aw (fs.take i++f :: fs.drop (i+1))=(aw fs).take (i*5)++fc f++(aw fs).drop (i*5+5):=by
 intro fs i f _;rw[ZE,aw,vw,vy,List.append_assoc,show(i+1)*5=i*5+5 by omega];rfl
theorem Pv(h:ZI fs f.name=true):V8 fs f=fs.take (VG fs f.name)++f :: fs.drop (VG fs f.name+1):=by
 unfold V8;rw[ax h]
theorem Pw(h:ZI fs f.name=false):V8 fs f=fs.take (VG fs f.name)++f :: fs.drop (VG fs f.name):=by
 unfold V8;rw[ab (by rw[h];decide),Nat.add_zero]
theorem sV(A R:List Value)(x v:Value)(o:Nat)(h:A.length=o):(A++x :: R).set o v=A++v :: R:=by
 subst h;simp
theorem Px(v0 v1 v2 v3 v4:Value)(h:o+5<=l.length):((((l.set o v0).set (o+1) v1).set (o+2) v2).set (o+3) v3).set (o+4) v4=l.take o++[v0,v1,v2,v3,v4]++l.drop (o+5):=by
 have hA:(l.take o).length=o:=by rw[List.length_take];omega
 have hl:=(List.take_append_drop o l).symm;have hd:l.drop (o+5)=(l.drop o).drop 5:=by rw[List.drop_drop]
 rw[hd];have hD:5<=(l.drop o).length:=by rw[List.length_drop];omega
 generalize l.take o=A at*;generalize l.drop o=D at*;subst hl
 match D,hD with
 |x0 :: x1 :: x2 :: x3 :: x4 :: R,_ =>
  rw[sV A _ x0 v0 o hA];rw[show A++v0 :: x1 :: x2 :: x3 :: x4 :: R=(A++[v0])++x1 :: x2 :: x3 :: x4 :: R by simp,sV (A++[v0]) _ x1 v1 (o+1) (by simp[hA])];rw[show(A++[v0])++v1 :: x2 :: x3 :: x4 :: R=(A++[v0,v1])++x2 :: x3 :: x4 :: R by simp,sV (A++[v0,v1]) _ x2 v2 (o+2) (by simp[hA])];rw[show(A++[v0,v1])++v2 :: x3 :: x4 :: R=(A++[v0,v1,v2])++x3 :: x4 :: R by simp,sV (A++[v0,v1,v2]) _ x3 v3 (o+3) (by simp[hA])];rw[show(A++[v0,v1,v2])++v3 :: x4 :: R=(A++[v0,v1,v2,v3])++x4 :: R by simp,sV (A++[v0,v1,v2,v3]) _ x4 v4 (o+4) (by simp[hA])];simp
theorem sW(v:Value)(h:w.heap[g]?=some (.cells cur t (0,0))):(w.setCell ⟨g,o,none⟩ v).heap[g]?=some (.cells (cur.setIfInBounds o v) t (0,0)):=by
 simp[World.setCell,Array.getElem?_modify,h]
theorem Py(v0 v1 v2 v3 v4:Value)(h:w.heap[g]?=some (.cells cur t (0,0)))(ho:o+5<=cur.size) :
 (fh w g o v0 v1 v2 v3 v4).heap[g]?=some (.cells (cur.toList.take o++[v0,v1,v2,v3,v4]++cur.toList.drop (o+5)).toArray t (0,0)):=by
 have h0:=sW (o:=o) v0 h;have h1:=sW (o:=o+1) v1 h0;have h2:=sW (o:=o+2) v2 h1;have h3:=sW (o:=o+3) v3 h2;have h4:=sW (o:=o+4) v4 h3
 have e:((((cur.setIfInBounds o v0).setIfInBounds (o+1) v1).setIfInBounds (o+2) v2).setIfInBounds (o+3) v3).setIfInBounds (o+4) v4=(cur.toList.take o++[v0,v1,v2,v3,v4]++cur.toList.drop (o+5)).toArray:=by
  apply Array.toList_inj.1;simp only[Array.toList_setIfInBounds];exact Px v0 v1 v2 v3 v4 (by simpa using ho)
 rw[e]at h4;unfold fh;exact h4
theorem vA(w:World)(g o:Nat)(v0 v1 v2 v3 v4:Value):w.grownBy (fh w g o v0 v1 v2 v3 v4) (some g):=by
 unfold fh;have h0:=Ze w ⟨g,o,none⟩ v0;generalize w.setCell _ _=w0 at*;have h1:=Ze w0 ⟨g,o+1,none⟩ v1;generalize w0.setCell _ _=w1 at*;have h2:=Ze w1 ⟨g,o+2,none⟩ v2;generalize w1.setCell _ _=w2 at*;have h3:=Ze w2 ⟨g,o+3,none⟩ v3;generalize w2.setCell _ _=w3 at*;have h4:=Ze w3 ⟨g,o+4,none⟩ v4;exact(((h0.trans h1).trans h2).trans h3).trans h4
theorem zO{lo cap:Nat}(f:Ar.F)(h:w.ownsRow lo 73 5 (.slice (some ⟨g,0,none⟩) fs.length cap) fs.length (aw fs))(hi:i<fs.length) :
 (fh w g (i*5) (.string f.name) (.int .i64 f.dict) (.int .i64 f.size) (.int .i64 f.sum) (.string f.blk)).ownsRow lo 73 5 (.slice (some ⟨g,0,none⟩) fs.length cap) fs.length (aw (fs.take i++f :: fs.drop (i+1))):=by
 have hcl:=iF fs;rcases h.2 with⟨h1,h2⟩|⟨g',cap',cur,h1,h2,h3,h4,h5,h6,h7⟩
 ·omega
 ·simp only[Value.slice.injEq,Option.some.injEq,Addr.mk.injEq]at h1;obtain⟨⟨rfl,_⟩,_,rfl⟩:=h1;have hsz:i*5+5<=cur.size:=by omega
  refine⟨?_,.inr ⟨g,cap,_,rfl,h2,Py _ _ _ _ _ h3 hsz,h4,h5,?_,?_⟩⟩
  ·rw[Fu fs i f hi];simp only[List.length_append,List.length_take,List.length_drop,fc,List.length_cons,List.length_nil];omega
  ·rw[List.size_toArray];simp only[List.length_append,List.length_take,List.length_drop,List.length_cons,List.length_nil,Array.length_toList];omega
  ·rw[Fu fs i f hi,<-h7];have e1:cur.toList.length=cap*5:=by simpa using h6
   show List.take (fs.length*5) (cur.toList.take (i*5)++fc f++cur.toList.drop (i*5+5))=_;rw[List.take_append,List.take_of_length_le (by simp only[List.length_append,List.length_take,fc,List.length_cons,List.length_nil];omega),List.take_take,List.drop_take];have e3:min (i*5) (fs.length*5)=i*5:=by omega
   have e4:(cur.toList.take (i*5)++fc f).length=i*5+5:=by simp only[List.length_append,List.length_take,fc,List.length_cons,List.length_nil];omega
   rw[e3,e4]
end Go.Proofs.YtbjbjbpgmojcbacGreatDoor
