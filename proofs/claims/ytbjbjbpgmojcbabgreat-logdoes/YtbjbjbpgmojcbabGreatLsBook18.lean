/- A part of the proof: what it leans on. -/
import Derived.Deep.CutRange
import Derived.Deep.Slices
import Derived.SizedLaws
import Derived.Carry
import Derived.ChangeSame
import Derived.Test.YtbjbjbpgmojcbabGreatLsBook17
set_option maxRecDepth 100000
set_option maxHeartbeats 4000000
namespace Go.Proofs.YtbjbjbpgmojcbabGreat
open Go.RowKit
structure Wtr (B p:Nat) (w:World) (v:Value) (l:List UInt8) (er:Int):Prop where
 hp:B<=p
 lt:p<w.heap.size
 c0:w.cell? ⟨p,0,none⟩=some v
 c1:w.cell? ⟨p,1,none⟩=some (.int .i64 er)
 f0:w.frozen? ⟨p,0,none⟩=false
 f1:w.frozen? ⟨p,1,none⟩=false
 own:Own8 w B v l
 ne:v.ownBlock ≠ some p
theorem Wtr.below {B p:Nat} {w w':World} {v:Value} {l:List UInt8} {er:Int} (h:Wtr B p w v l er) (G:Below w.heap.size w w'):Wtr B p w' v l er :=
 ⟨h.hp,nT h.lt G.size,(G.cell (p:=⟨p,0,none⟩) h.lt).trans h.c0,(G.cell (p:=⟨p,1,none⟩) h.lt).trans h.c1,(G.frozen (p:=⟨p,0,none⟩) h.lt).trans h.f0,(G.frozen (p:=⟨p,1,none⟩) h.lt).trans h.f1,h.own.below G,h.ne⟩
theorem Wtr.app {B p:Nat} {w w1:World} {v v':Value} {l l':List UInt8} {er:Int} (h:Wtr B p w v l er) (A:App w w1 B v v' l'):Wtr B p (w1.setCell ⟨p,0,none⟩ v') v' l' er/\Below B w (w1.setCell ⟨p,0,none⟩ v'):=by
 have hb:=A.block p h.lt (fun e=>h.ne e.symm);have k0:w1.cell? ⟨p,0,none⟩=some v:=(cB (w:=w) hb).trans h.c0;have k1:w1.cell? ⟨p,1,none⟩=some (.int .i64 er):=(cB (w:=w) hb).trans h.c1
 have hne:v'.ownBlock ≠ some p:=fun e=>by
  rcases A.at_ p e with h9 | h9
  ·exact h.ne h9
  ·have:=h.lt;omega
 refine ⟨⟨h.hp,?_,cS _ _ _ k0,(cO _ _ _ _ (by intro e;have:=congrArg Addr.off e;simp at this)).trans k1,?_,?_,?_,hne⟩,A.below.setCell h.hp _⟩
 ·have:=A.own;have h2:=cL w1 _ k0;simpa [World.setCell] using h2
 ·rw [World.frozen?_setCell];exact (fB (w:=w) hb).trans h.f0
 ·rw [World.frozen?_setCell];exact (fB (w:=w) hb).trans h.f1
 ·exact A.own.kept (by simp [World.setCell]) (fun g hg=>zhS _ _ _ _ (fun e=>hne (by rw [hg];exact congrArg some e)))
theorem Wtr.err {B p:Nat} {w:World} {v:Value} {l:List UInt8} {er:Int} (h:Wtr B p w v l er) (e:Int):Wtr B p (w.setCell ⟨p,1,none⟩ (.int .i64 e)) v l e/\Below B w (w.setCell ⟨p,1,none⟩ (.int .i64 e)):=by
 refine ⟨⟨h.hp,?_,(cO _ _ _ _ (by intro e;have:=congrArg Addr.off e;simp at this)).trans h.c0,cS _ _ _ h.c1,?_,?_,?_,h.ne⟩,(bR _ _).setCell h.hp _⟩
 ·have:=h.lt;simpa [World.setCell] using this
 ·rw [World.frozen?_setCell];exact h.f0
 ·rw [World.frozen?_setCell];exact h.f1
 ·exact h.own.kept (by simp [World.setCell]) (fun g hg=>zhS _ _ _ _ (fun e=>h.ne (by rw [hg];exact congrArg some e)))
theorem Own8.slice {w:World} {B:Nat} {v:Value} {l:List UInt8} (h:Own8 w B v l):∃ x n c,v=.slice x n c:=by
 rcases h with ⟨rfl,_⟩ | ⟨g,cap,rfl,_⟩
 ·exact ⟨_,_,_,rfl⟩
 ·exact ⟨_,_,_,rfl⟩
theorem Own8.str {w:World} {B:Nat} {v:Value} {l:List UInt8} (h:Own8 w B v l):(convert 93 9 v).run Tryz.prog w=.ok (.string ⟨l.toArray⟩) w:=by
 rcases h with ⟨rfl,rfl⟩ | ⟨g,cap,rfl,_,_,_,_,h5,_⟩
 ·exact Lib.run_convert_nil_bytes w 93 9 5 0 U93 U5 U9
 ·have:=Own8.conv h5 0 cap;simpa using this
structure WF (p:Nat) (w w':World) (v v':Value):Prop where
 blk:∀ k,k<w.heap.size->k ≠ p->v.ownBlock ≠ some k->w'.heap[k]?=w.heap[k]?
 at_:∀ g,v'.ownBlock=some g->v.ownBlock=some g\/w.heap.size<=g
 sz:w.heap.size<=w'.heap.size
theorem WF.trans {p:Nat} {a b c:World} {v1 v2 v3:Value} (h:WF p a b v1 v2) (g:WF p b c v2 v3):WF p a c v1 v3:=by
 refine ⟨fun k hk hp hv=>(g.blk k (nT hk h.sz) hp (fun e=>?_)).trans (h.blk k hk hp hv),fun x hx=>?_,nt h.sz g.sz⟩
 ·rcases h.at_ k e with h9 | h9
  ·exact hv h9
  ·omega
 ·rcases g.at_ x hx with h9 | h9
  ·exact h.at_ x h9
  ·exact .inr (nt h.sz h9)
theorem WF.of {p:Nat} {w w':World} {v:Value} (G:Below w.heap.size w w'):WF p w w' v v:=⟨fun k hk _ _=>G.block k hk,fun _ h=>.inl h,G.size⟩
theorem WF.app {B p:Nat} {w w1:World} {v v':Value} {l':List UInt8} (A:App w w1 B v v' l') (hz:w.heap.size<=w1.heap.size):WF p w (w1.setCell ⟨p,0,none⟩ v') v v' :=
 ⟨fun k hk hp hv=>(zhS _ _ _ _ hp).trans (A.block k hk (fun e=>hv e.symm)),A.at_,by simpa [World.setCell] using hz⟩
theorem WF.err {p:Nat} {w:World} {v:Value} (u:Value):WF p w (w.setCell ⟨p,1,none⟩ u) v v:=⟨fun k _ hp _=>Below.heap_setCell _ _ _ _ hp,fun _ h=>.inl h,by simp [World.setCell]⟩
def ZcX (B p:Nat) (w:World) (v:Value) (l:List UInt8) (er:Int) (e:Ending) (w':World):Prop:=e=.returned (.tuple #[])/\Below B w w'/\∃ v',Wtr B p w' v' l er/\WF p w w' v v'
theorem ZbI (B p:Nat) (w:World) (v:Value) (l:List UInt8) (er:Int) (s:ByteArray) (h:Wtr B p w v l er) (hl:l.length+s.size<=140737488355328) :
 Calls Tryz.prog 111 #[.pointer (some ⟨p,0,none⟩),.string s] w fun e w'=>ZcX B p w v (l++s.data.toList) er e w':=by
 have c0:=h.c0;have hO:=h.own;have hB:B<=w.heap.size:=nL (Nat.lt_of_le_of_lt h.hp h.lt);have hA:Hid (∀ v' w1,App w w1 B v v' (l++s.data.toList)->Wtr B p (w1.setCell ⟨p,0,none⟩ v') v' (l++s.data.toList) er/\Below B w (w1.setCell ⟨p,0,none⟩ v')):=fun v' w1 A=>h.app A
 have hC:Hid (∀ v' w1,App w w1 B v v' (l++s.data.toList)->w1.cell? ⟨p,0,none⟩=some v/\w1.frozen? ⟨p,0,none⟩=false):=fun v' w1 A=>⟨(cB (w:=w) (A.block p h.lt (fun e=>h.ne e.symm))).trans h.c0,(fB (w:=w) (A.block p h.lt (fun e=>h.ne e.symm))).trans h.f0⟩
 clear h;go_enter Tryz.func111,Tryz.ntmps111
 go_wp2_with (at_builtin;refine Zco _ rfl _ _ rfl B v l rfl hO s rfl hl hB ?_;intro v' w1 A;obtain ⟨k0,kf⟩:=hC.out _ _ A;have A2:=hA.out _ _ A;obtain ⟨x,n,c,hv⟩:=A.own.slice;subst hv)
 go_end0
 exact ⟨rfl,A2.2,_,A2.1,WF.app A A.below.size⟩
theorem Zfc (B p:Nat) (w:World) (v:Value) (l:List UInt8) (er:Int) (h:Wtr B p w v l er) :
 Calls Tryz.prog 112 #[.pointer (some ⟨p,0,none⟩)] w fun e w'=>e=.returned (.string ⟨l.toArray⟩)/\Below w.heap.size w w':=by
 have c0:=h.c0;have hO:=h.own.str;clear h;go_enter Tryz.func112,Tryz.ntmps112
 go_wp2_with fail
 go_ret
 exact ⟨rfl,bR _ _⟩
theorem Zhu (B p:Nat) (w:World) (v:Value) (l:List UInt8) (er:Int) (s:ByteArray) (E:Int) (h:Wtr B p w v l er) (hl:l.length+s.size<=140737488355328) :
 Calls Tryz.prog 120 #[.pointer (some ⟨p,0,none⟩),.string s,.int .i64 E] w fun e w'=>ZcX B p w v (l++s.data.toList) (if er=0 then E else er) e w':=by
 have c1:=h.c1;have f1:=h.f1;have hB:B<=w.heap.size:=nL (Nat.lt_of_le_of_lt h.hp h.lt);by_cases he:er=0
 ·subst he;rw [if_pos rfl];obtain ⟨h2,G⟩:=h.err E;have C:=ZbI B p _ v l E s h2 hl;have hQ:Hid (∀ w',Below B (w.setCell ⟨p,1,none⟩ (.int .i64 E)) w'->Below B w w'):=fun w' h9=>G.trans h9
  clear h h2 G;go_enter Tryz.func120,Tryz.ntmps120
  go_wp2_with fail
  refine C.mono ?_;rintro e w1 ⟨rfl,G,v',h',F'⟩;go_wp2_with fail
  go_end0
  exact ⟨rfl,hQ.out _ G,_,h',(WF.err _).trans F'⟩
 ·rw [if_neg he];have C:=ZbI B p _ v l er s h hl;have d1:(er == 0)=false:=by simpa using he
  clear h;go_enter Tryz.func120,Tryz.ntmps120
  go_wp2_with fail
  refine C.mono ?_;rintro e w1 ⟨rfl,G,v',h',F'⟩;go_wp2_with fail
  go_end0
  exact ⟨rfl,G,_,h',F'⟩
namespace Im
def nW (n:Int):List UInt8:=if 0<=n/\n<=2147483647 then Nm.nb n.toNat else []
def nE (n:Int):Int:=if 0<=n/\n<=2147483647 then 0 else 3
def tW (s:ByteArray):List UInt8:=if s.size<=512 then tb s else []
def tE (s:ByteArray):Int:=if s.size<=512 then 0 else 2
def er1 (er E:Int):Int:=if er=0 then E else er
end Im
theorem Zcr (B p:Nat) (w:World) (v:Value) (l:List UInt8) (er n:Int) (h:Wtr B p w v l er) (hl:l.length+5<=140737488355328) :
 Calls Tryz.prog 79 #[.pointer (some ⟨p,0,none⟩),.int .i64 n] w fun e w'=>ZcX B p w v (l++Im.nW n) (Im.er1 er (Im.nE n)) e w':=by
 have hB:B<=w.heap.size:=nL (Nat.lt_of_le_of_lt h.hp h.lt)
 have C1:Calls Tryz.prog 121 #[.int .i64 n] w fun e w'=>e=.returned (.tuple #[.string ⟨(Im.nW n).toArray⟩,.int .i64 (Im.nE n)])/\Below w.heap.size w w':=by
  unfold Im.nW Im.nE;by_cases hn:0<=n/\n<=2147483647
  ·rw [if_pos hn,if_pos hn];exact ZgA n w hn.1 hn.2
  ·rw [if_neg hn,if_neg hn];exact Zut n w (by omega)
 have hz:(Im.nW n).length<=5:=by
  unfold Im.nW;by_cases hn:0<=n/\n<=2147483647
  ·rw [if_pos hn];exact Nm.Zt _ (by omega)
  ·rw [if_neg hn];simp
 have C2:Hid (∀ w',Below w.heap.size w w'->Calls Tryz.prog 120 #[.pointer (some ⟨p,0,none⟩),.string ⟨(Im.nW n).toArray⟩,.int .i64 (Im.nE n)] w' fun e w2=>ZcX B p w' v (l++Im.nW n) (Im.er1 er (Im.nE n)) e w2):=fun w' h9=>by
  have:=Zhu B p w' v l er ⟨(Im.nW n).toArray⟩ (Im.nE n) (h.below h9) (by show l.length+(Im.nW n).toArray.size<=_;simp;omega);simpa [Im.er1] using this
 generalize Im.nW n=L at *;generalize Im.er1 er (Im.nE n)=R at *;generalize Im.nE n=E at *;clear h;go_enter Tryz.func79,Tryz.ntmps79
 go_wp2_with fail
 refine C1.mono ?_;rintro e w1 ⟨rfl,G⟩;go_wp2_with fail
 refine (C2.out _ G).mono ?_;rintro e w2 ⟨rfl,G2,v',h',F'⟩;have G3:Below B w w2:=(G.mono hB).trans G2;have F3:=(WF.of (p:=p) (v:=v) G).trans F';go_wp2_with fail
 go_end0
 exact ⟨rfl,G3,_,h',F3⟩
theorem Zhm (B p:Nat) (w:World) (v:Value) (l:List UInt8) (er:Int) (s:ByteArray) (h:Wtr B p w v l er) (hl:l.length+520<=140737488355328) (hs:s.size<=281474976710656) :
 Calls Tryz.prog 80 #[.pointer (some ⟨p,0,none⟩),.string s] w fun e w'=>ZcX B p w v (l++Im.tW s) (Im.er1 er (Im.tE s)) e w':=by
 have hB:B<=w.heap.size:=nL (Nat.lt_of_le_of_lt h.hp h.lt)
 have C1:Calls Tryz.prog 122 #[.string s] w fun e w'=>e=.returned (.tuple #[.string ⟨(Im.tW s).toArray⟩,.int .i64 (Im.tE s)])/\Below w.heap.size w w':=by
  unfold Im.tW Im.tE;by_cases hn:s.size<=512
  ·rw [if_pos hn,if_pos hn]
   have e1:(⟨(Im.tb s).toArray⟩:ByteArray)=⟨(Nm.nb s.size).toArray⟩++s:=by
    apply Nm.ZG;simp [Im.tb]
   rw [e1];exact Zpg s w hn
  ·rw [if_neg hn,if_neg hn];exact ZtA s w hs (by omega)
 have hz:(Im.tW s).length<=520:=by
  unfold Im.tW;by_cases hn:s.size<=512
  ·rw [if_pos hn];have:=Nm.Zt s.size (by omega);have h2:=Im.Zj s;unfold Im.tb;rw [List.length_append];omega
  ·rw [if_neg hn];simp
 have C2:Hid (∀ w',Below w.heap.size w w'->Calls Tryz.prog 120 #[.pointer (some ⟨p,0,none⟩),.string ⟨(Im.tW s).toArray⟩,.int .i64 (Im.tE s)] w' fun e w2=>ZcX B p w' v (l++Im.tW s) (Im.er1 er (Im.tE s)) e w2):=fun w' h9=>by
  have:=Zhu B p w' v l er ⟨(Im.tW s).toArray⟩ (Im.tE s) (h.below h9) (by show l.length+(Im.tW s).toArray.size<=_;simp;omega);simpa [Im.er1] using this
 generalize Im.tW s=L at *;generalize Im.er1 er (Im.tE s)=R at *;generalize Im.tE s=E at *;clear h;go_enter Tryz.func80,Tryz.ntmps80
 go_wp2_with fail
 refine C1.mono ?_;rintro e w1 ⟨rfl,G⟩;go_wp2_with fail
 refine (C2.out _ G).mono ?_;rintro e w2 ⟨rfl,G2,v',h',F'⟩;have G3:Below B w w2:=(G.mono hB).trans G2;have F3:=(WF.of (p:=p) (v:=v) G).trans F';go_wp2_with fail
 go_end0
 exact ⟨rfl,G3,_,h',F3⟩
theorem ZhK (B p:Nat) (w:World) (v:Value) (l:List UInt8) (er:Int) (s:ByteArray) (h:Wtr B p w v l er) (hl:l.length+5+s.size<=140737488355328) :
 Calls Tryz.prog 81 #[.pointer (some ⟨p,0,none⟩),.string s] w fun e w'=>ZcX B p w v (l++Im.nW (s.size:Int)++s.data.toList) (Im.er1 er (Im.nE (s.size:Int))) e w':=by
 have hz:(Im.nW (s.size:Int)).length<=5:=by
  unfold Im.nW;by_cases hn:0<=(s.size:Int)/\(s.size:Int)<=2147483647
  ·rw [if_pos hn];exact Nm.Zt _ (by omega)
  ·rw [if_neg hn];simp
 have C1:=Zcr B p w v l er (s.size:Int) h (by omega);have C2:Hid (∀ w' v',Wtr B p w' v' (l++Im.nW (s.size:Int)) (Im.er1 er (Im.nE (s.size:Int)))->Calls Tryz.prog 111 #[.pointer (some ⟨p,0,none⟩),.string s] w' fun e w2=>ZcX B p w' v' (l++Im.nW (s.size:Int)++s.data.toList) (Im.er1 er (Im.nE (s.size:Int))) e w2):=fun w' v' h9=>ZbI B p w' v' _ _ s h9 (by rw [List.length_append];omega)
 generalize Im.er1 er (Im.nE (s.size:Int))=R at *;generalize l++Im.nW (s.size:Int)++s.data.toList=L2 at *;generalize l++Im.nW (s.size:Int)=L1 at *;clear h hz;go_enter Tryz.func81,Tryz.ntmps81
 go_wp2_with fail
 refine C1.mono ?_;rintro e w1 ⟨rfl,G,v1,h1,F1⟩;go_wp2_with fail
 refine (C2.out _ _ h1).mono ?_;rintro e w2 ⟨rfl,G2,v',h',F'⟩;have G3:=G.trans G2;have F3:=F1.trans F';go_wp2_with fail
 go_end0
 exact ⟨rfl,G3,_,h',F3⟩
theorem Zkz (w:World):∀ k,Below w.heap.size w (w.drewN k)
 | 0=>bR _ _
 | k+1=>by rw [show w.drewN (k+1)=(w.drewN k).drew from rfl];exact (Zkz w k).drew
theorem Zek (B p:Nat) (w:World) (v:Value) (l:List UInt8) (er:Int) (h:Wtr B p w v l er) :
 Calls Tryz.prog 72 #[.pointer (some ⟨p,0,none⟩)] w fun e w'=>e=.returned (.tuple #[.string (if er=0 then ⟨l.toArray⟩ else ⟨#[]⟩),.int .i64 er])/\Below w.heap.size w w':=by
 have c1:=h.c1;by_cases he:er=0
 ·subst he;rw [if_pos rfl];have C:=Zfc B p w v l 0 h;clear h;go_enter Tryz.func72,Tryz.ntmps72
  go_wp2_with fail
  refine C.mono ?_;rintro e w1 ⟨rfl,G⟩;go_wp2_with fail
  go_ret2
  exact ⟨rfl,G⟩
 ·rw [if_neg he];have d1:(er == 0)=false:=by simpa using he
  clear h;go_enter Tryz.func72,Tryz.ntmps72
  go_wp2_with fail
  go_quiet (fail)
  go_wp2_with fail
  go_ret2
  exact ⟨rfl,Zkz _ _⟩
theorem ZnB (w:World) (T:TypeId):Wtr w.heap.size w.heap.size (w.alloc (.cells #[.slice none 0 0,.int .i64 0] T (0,0))) (.slice none 0 0) [] 0 :=
 ⟨nl _,by simp,cN _ _ _ 0,cN _ _ _ 1,fN _ _ _ _ rfl,fN _ _ _ _ rfl,Own8.nil _ _,by simp [Value.ownBlock]⟩
namespace Im
def wL (x:Act):List UInt8:=(([]++nW x.kind)++nW x.n)++tW x.name++tW x.text
def wE (x:Act):Int:=er1 (er1 (er1 (er1 0 (nE x.kind)) (nE x.n)) (tE x.name)) (tE x.text)
theorem Zvm (x:Act):wE x=actE x:=by
 unfold wE actE er1 nE tE In;by_cases h1:0<=x.kind/\x.kind<=2147483647
 ·by_cases h2:0<=x.n/\x.n<=2147483647
  ·by_cases h3:x.name.size<=512
   ·by_cases h4:x.text.size<=512
    ·simp [h1,h2,h3,h4]
    ·simp [h1,h2,h3,h4]
   ·simp [h1,h2,h3]
  ·simp [h1,h2]
 ·simp [h1]
theorem Zvk {x:Act} (h:okX x):wL x=Zbh x:=by
 obtain ⟨h1,h2,h3,h4⟩:=h;unfold wL Zbh nW tW;unfold In at h1 h2;rw [if_pos h1,if_pos h2,if_pos h3,if_pos h4];simp
theorem Zrf (n:Int):(nW n).length<=5:=by
 unfold nW;split
 ·exact Nm.Zt _ (by omega)
 ·simp
theorem Zry (s:ByteArray):(tW s).length<=520:=by
 unfold tW;split
 ·unfold tb;have:=Nm.Zt s.size (by omega);rw [List.length_append,<-Zj];omega
 ·simp
end Im
theorem ZdL (k n:Int) (nm tx:ByteArray) (w:World) (hn:nm.size<=281474976710656) (ht:tx.size<=281474976710656) :
 Calls Tryz.prog 39 #[.agg #[.int .i64 k,.int .i64 n,.string nm,.string tx]] w fun e w'=>e=.returned (.tuple #[.string (Im.wrtT ⟨k,n,nm,tx⟩),.int .i64 (Im.actE ⟨k,n,nm,tx⟩)])/\Below w.heap.size w w':=by
 have B1:=Za w (.cells #[.int .i64 k,.int .i64 n,.string nm,.string tx] 54 (0,0));have X1:=XB.new w 54 k n nm tx;have G2:=Za (w.alloc (.cells #[.int .i64 k,.int .i64 n,.string nm,.string tx] 54 (0,0))) (.cells #[.slice none 0 0,.int .i64 0] 97 (0,0));have T:=ZnB (w.alloc (.cells #[.int .i64 k,.int .i64 n,.string nm,.string tx] 54 (0,0))) 97;have X:=X1.next G2;have B:=bch B1 G2 (nl _);rw [show (w.alloc (.cells #[.int .i64 k,.int .i64 n,.string nm,.string tx] 54 (0,0))).heap.size=w.heap.size+1 by simp] at T;have l1:=Im.Zrf k;have l2:=Im.Zrf n;have l3:=Im.Zry nm;have l4:=Im.Zry tx;have C1:Hid (∀ w' v,Wtr (w.heap.size+1) (w.heap.size+1) w' v [] 0->_):=fun w' v h=>Zcr (w.heap.size+1) (w.heap.size+1) w' v [] 0 k h (by simp)
 have C2:Hid (∀ w' v,Wtr (w.heap.size+1) (w.heap.size+1) w' v ([]++Im.nW k) (Im.er1 0 (Im.nE k))->_):=fun w' v h=>Zcr (w.heap.size+1) (w.heap.size+1) w' v ([]++Im.nW k) (Im.er1 0 (Im.nE k)) n h (by simp;omega)
 have C3:Hid (∀ w' v,Wtr (w.heap.size+1) (w.heap.size+1) w' v (([]++Im.nW k)++Im.nW n) (Im.er1 (Im.er1 0 (Im.nE k)) (Im.nE n))->_):=fun w' v h=>Zhm (w.heap.size+1) (w.heap.size+1) w' v _ _ nm h (by simp;omega) hn
 have C4:Hid (∀ w' v,Wtr (w.heap.size+1) (w.heap.size+1) w' v ((([]++Im.nW k)++Im.nW n)++Im.tW nm) (Im.er1 (Im.er1 (Im.er1 0 (Im.nE k)) (Im.nE n)) (Im.tE nm))->_):=fun w' v h=>Zhm (w.heap.size+1) (w.heap.size+1) w' v _ _ tx h (by simp;omega) ht
 have C5:Hid (∀ w' v,Wtr (w.heap.size+1) (w.heap.size+1) w' v (Im.wL ⟨k,n,nm,tx⟩) (Im.wE ⟨k,n,nm,tx⟩)->_):=fun w' v h=>Zek (w.heap.size+1) (w.heap.size+1) w' v _ _ h
 have HL:Hid (Im.wL ⟨k,n,nm,tx⟩=((([]++Im.nW k)++Im.nW n)++Im.tW nm)++Im.tW tx):=rfl;have HE:Hid (Im.wE ⟨k,n,nm,tx⟩=Im.er1 (Im.er1 (Im.er1 (Im.er1 0 (Im.nE k)) (Im.nE n)) (Im.tE nm)) (Im.tE tx)):=rfl;have HW:=Im.Zvm ⟨k,n,nm,tx⟩
 have HOK:Hid (Im.actE ⟨k,n,nm,tx⟩=0->Im.wL ⟨k,n,nm,tx⟩=Im.Zbh ⟨k,n,nm,tx⟩/\(Im.Zbh ⟨k,n,nm,tx⟩).length<=1044/\Im.wrtT ⟨k,n,nm,tx⟩=⟨(Im.actB ⟨k,n,nm,tx⟩).toArray⟩):=fun h0=>⟨Im.Zvk (Im.Zbv.1 h0),Im.Zdb (Im.Zbv.1 h0),by unfold Im.wrtT;rw [if_pos h0]⟩
 have HNO:Hid (Im.actE ⟨k,n,nm,tx⟩ ≠ 0->Im.wrtT ⟨k,n,nm,tx⟩=⟨#[]⟩):=fun h0=>by unfold Im.wrtT;rw [if_neg h0]
 rw [HW] at C5 HE;have HB:Hid (Im.actB ⟨k,n,nm,tx⟩=Nm.nb (Im.Zbh ⟨k,n,nm,tx⟩).length++Im.Zbh ⟨k,n,nm,tx⟩):=rfl;clear HW B1 X1 G2 l1 l2 l3 l4 hn ht;generalize Im.wL ⟨k,n,nm,tx⟩=L at *;generalize Im.actE ⟨k,n,nm,tx⟩=E at *;generalize Im.Zbh ⟨k,n,nm,tx⟩=I at *;generalize Im.actB ⟨k,n,nm,tx⟩=AB at *;generalize Im.wrtT ⟨k,n,nm,tx⟩=R at *;generalize ([]++Im.nW k)=L1 at *;generalize Im.er1 0 (Im.nE k)=E1 at *;generalize (L1++Im.nW n)=L2 at *;generalize Im.er1 E1 (Im.nE n)=E2 at *;generalize (L2++Im.tW nm)=L3 at *;generalize Im.er1 E2 (Im.tE nm)=E3 at *;obtain ⟨x0,x1,x2,x3,_⟩:=id X;go_enter Tryz.func39,Tryz.ntmps39
 go_wp2_with fail
 clear x0 x1 x2 x3;generalize ((w.alloc (.cells #[.int .i64 k,.int .i64 n,.string nm,.string tx] 54 (0,0))).alloc (.cells #[.slice none 0 0,.int .i64 0] 97 (0,0)))=w0 at *;refine (C1.out _ _ T).mono ?_;rintro e w1 ⟨rfl,G,v1,T',_⟩;have T:=T';have X:=X.block (G.block w.heap.size (by omega));have B:=B.trans (G.mono (by omega));clear T' G C1;obtain ⟨x0,x1,x2,x3,_⟩:=id X;go_wp2_with fail
 clear x0 x1 x2 x3;refine (C2.out _ _ T).mono ?_;rintro e w2 ⟨rfl,G,v2,T',_⟩;have T:=T';have X:=X.block (G.block w.heap.size (by omega));have B:=B.trans (G.mono (by omega));clear T' G C2;obtain ⟨x0,x1,x2,x3,_⟩:=id X;go_wp2_with fail
 clear x0 x1 x2 x3;refine (C3.out _ _ T).mono ?_;rintro e w3 ⟨rfl,G,v3,T',_⟩;have T:=T';have X:=X.block (G.block w.heap.size (by omega));have B:=B.trans (G.mono (by omega));clear T' G C3;obtain ⟨x0,x1,x2,x3,_⟩:=id X;go_wp2_with fail
 clear x0 x1 x2 x3;refine (C4.out _ _ T).mono ?_;rintro e w4 ⟨rfl,G,v4,T',_⟩;have T:=T';rw [<-HL.out,<-HE.out] at T;have X:=X.block (G.block w.heap.size (by omega));have B:=B.trans (G.mono (by omega));clear T' G C4;obtain ⟨x0,x1,x2,x3,_⟩:=id X;go_wp2_with fail
 clear x0 x1 x2 x3;refine (C5.out _ _ T).mono ?_;rintro e w5 ⟨rfl,G⟩;have B:=bch B G (nl _);clear G C5 T X HL HE;by_cases h0:E=0
 ·obtain ⟨e1,e2,e3⟩:=HOK.out h0;subst h0;rw [if_pos rfl,e1]
  have HR:=(show Hid _ from e3)
  clear HOK HNO e1 e3;have T:=ZnB w5 97;have GA:=Za w5 (.cells #[.slice none 0 0,.int .i64 0] 97 (0,0));have C6:=ZhK w5.heap.size w5.heap.size _ _ [] 0 ⟨I.toArray⟩ T (by rw [Im.Zj];simp;omega);have hI:((⟨I.toArray⟩:ByteArray).size:Int)=(I.length:Int):=by rw [Im.Zj]
  have hin:0<=(I.length:Int)/\(I.length:Int)<=2147483647:=⟨by omega,by omega⟩
  rw [hI,show Im.nW (I.length:Int)=Nm.nb I.length by unfold Im.nW;rw [if_pos hin,Int.toNat_natCast],show Im.er1 0 (Im.nE (I.length:Int))=0 by unfold Im.er1 Im.nE;rw [if_pos rfl,if_pos hin],show ([]++Nm.nb I.length++(⟨I.toArray⟩:ByteArray).data.toList)=AB by rw [HB.out];simp] at C6;clear hI hin HB e2;generalize (⟨I.toArray⟩:ByteArray)=S at *;go_wp2_with fail
  generalize (w5.alloc (.cells #[.slice none 0 0,.int .i64 0] 97 (0,0)))=w6 at *;refine C6.mono ?_;rintro e w7 ⟨rfl,G,v7,T7,_⟩;go_wp2_with fail
  have C7:=Zek _ _ w7 v7 AB 0 T7;rw [if_pos rfl] at C7;refine C7.mono ?_;rintro e w8 ⟨rfl,G8⟩;go_wp2_with fail
  go_ret2
  exact ⟨by rw [HR.out];rfl,bch (bch B (GA.trans G) (nl _)) G8 (nl _)⟩
 ·rw [if_neg h0]
  have HR:=(show Hid _ from HNO.out h0)
  have dE:(E == 0)=false:=by simpa using h0
  go_wp2_with fail
  go_ret2
  exact ⟨by rw [HR.out];rfl,B⟩
theorem ZcP (s:ByteArray) (k n:Int) (nm tx:ByteArray) (w:World) (hn:nm.size<=140737488355328) (ht:tx.size<=140737488355328) (hM:Mx w) :
 Calls Tryz.prog 46 #[.string s,.agg #[.int .i64 k,.int .i64 n,.string nm,.string tx]] w fun e w'=>e=.returned (.tuple #[.string (Im.stoT s ⟨k,n,nm,tx⟩),.int .i64 (Im.stoE s ⟨k,n,nm,tx⟩)])/\Below w.heap.size w w':=by
 have B1:=Za w (.cells #[.int .i64 k,.int .i64 n,.string nm,.string tx] 54 (0,0));have X1:=XB.new w 54 k n nm tx;obtain ⟨_,hl,hN⟩:=Im.ZgD s;have hX:=Zeh s;have hWT:=Im.Zra ⟨k,n,nm,tx⟩;have C1:=Zdh s (w.alloc (.cells #[.int .i64 k,.int .i64 n,.string nm,.string tx] 54 (0,0)));have C2:Hid (∀ w',Calls Tryz.prog 39 #[.agg #[.int .i64 k,.int .i64 n,.string nm,.string tx]] w' fun e w2=>e=.returned (.tuple #[.string (Im.wrtT ⟨k,n,nm,tx⟩),.int .i64 (Im.actE ⟨k,n,nm,tx⟩)])/\Below w'.heap.size w' w2):=fun w'=>ZdL k n nm tx w' (by omega) (by omega)
 have CD0:Hid (∀ w' ad cap,Below w.heap.size w w'->XSl w' ad (Im.rplL s)->Calls Tryz.prog 87 #[.slice ad (Im.rplL s).length cap] w' fun e w2=>ZbJ (Im.done (Im.rplL s)) w' e w2):=fun w' ad cap h1 h2=>ZjQ ad cap _ w' h2 hX (by omega) (hM.below h1)
 have CO0:Hid (∀ w' p cp q cq,Below w.heap.size w w'->ArV w' p q (Im.done (Im.rplL s))->Calls Tryz.prog 36 #[.agg #[.slice p (Im.done (Im.rplL s)).dicts.length cp,.slice q (Im.done (Im.rplL s)).files.length cq],.agg #[.int .i64 k,.int .i64 n,.string nm,.string tx]] w' fun e w2=>ArSaid w' (Im.doA (Im.done (Im.rplL s)) ⟨k,n,nm,tx⟩) (Im.doE (Im.done (Im.rplL s)) ⟨k,n,nm,tx⟩) e w2):=fun w' p cp q cq h1 h2=>Zez p q cp cq _ ⟨k,n,nm,tx⟩ w' h2 (SaneA.done hX) hn ht (hM.below h1)
 have HE:Hid (Im.stoE s ⟨k,n,nm,tx⟩=if Im.rplE s ≠ 0 then Im.rplE s else if Im.actE ⟨k,n,nm,tx⟩ ≠ 0 then Im.actE ⟨k,n,nm,tx⟩ else if (Im.rplL s).length=100\/16384<Im.rplN s+(Im.wrtT ⟨k,n,nm,tx⟩).size then 2 else Im.doE (Im.done (Im.rplL s)) ⟨k,n,nm,tx⟩):=rfl;have HT:Hid (Im.stoT s ⟨k,n,nm,tx⟩=if Im.stoE s ⟨k,n,nm,tx⟩=0 then s.extract 0 (Im.rplN s)++Im.wrtT ⟨k,n,nm,tx⟩ else ⟨#[]⟩):=rfl
 have hz0:Im.rplE s=0->s.size<=16384:=fun h0=>by
  by_cases hb:16384<s.size
  ·unfold Im.rplE at h0;rw [if_pos hb] at h0;cases h0
  ·omega
 clear hX hM;generalize Im.stoT s ⟨k,n,nm,tx⟩=ST at *;generalize Im.stoE s ⟨k,n,nm,tx⟩=SE at *;generalize Im.actE ⟨k,n,nm,tx⟩=AE at *;generalize Im.wrtT ⟨k,n,nm,tx⟩=WT at *;generalize Im.doE (Im.done (Im.rplL s)) ⟨k,n,nm,tx⟩=E3 at *;generalize Im.doA (Im.done (Im.rplL s)) ⟨k,n,nm,tx⟩=A2 at *;generalize Im.done (Im.rplL s)=AD at *;generalize Im.rplE s=RE at *;generalize Im.rplN s=RN at *;have HL:Hid (∀ (w:World) (e:Ending) (w':World),RpSaid (Im.rplL s) RN RE w e w'->∃ ad cap,e=.returned (.tuple #[.slice ad (Im.rplL s).length cap,.int .i64 (RN:Nat),.int .i64 RE])/\XSl w' ad (Im.rplL s)/\Below w.heap.size w w'):=fun _ _ _ h=>h.open
 generalize Im.rplL s=l at *;generalize l.length=N at *;go_enter Tryz.func46,Tryz.ntmps46
 go_wp2_with fail
 generalize (w.alloc (.cells #[.int .i64 k,.int .i64 n,.string nm,.string tx] 54 (0,0)))=w0 at *;refine C1.mono ?_;intro e w1 h1;obtain ⟨ad,cap,rfl,hx,G⟩:=HL.out _ _ _ h1;have X:=X1.next G;have B:=bch B1 G (nl _);clear C1 h1 G X1 B1 HL;by_cases hRE:RE=0
 ·have hs:=hz0 hRE;have hRN:RN<=16384:=by omega
  have hw:wrap64 ((RN:Int)+(WT.size:Int))=(RN:Int)+(WT.size:Int):=by unfold wrap64;omega
  clear hz0;subst hRE;obtain ⟨x0,x1,x2,x3,_⟩:=id X;go_wp2_with fail
  clear x0 x1 x2 x3;refine (C2.out _).mono ?_;rintro e w2 ⟨rfl,G⟩;have X:=X.next G;have hx:=hx.below G;have B:=bch B G (nl _);clear C2 G;by_cases hAE:AE=0
  ·subst hAE;by_cases h100:N=100
   ·have d1:((N:Int) == 100)=true:=by simp;omega
    have d1':(N == 100)=true:=by simpa using h100
    have eE:=HE.out;rw [if_neg (by simp),if_neg (by simp),if_pos (.inl h100)] at eE;have eT:=HT.out;rw [eE,if_neg (by decide)] at eT
    have HR:=(show Hid (SE=2/\ST=⟨#[]⟩) from ⟨eE,eT⟩)
    clear eE eT HE HT;go_wp2_with fail
    go_ret2
    exact ⟨by rw [HR.out.1,HR.out.2];rfl,B⟩
   ·have d1:((N:Int) == 100)=false:=by simp;omega
    have d1':(N == 100)=false:=by simpa using h100
    by_cases hbg:16384<RN+WT.size
    ·have d2:decide ((16384:Int)<(RN:Int)+(WT.size:Int))=true:=zdT (by omega);have eE:=HE.out;rw [if_neg (by simp),if_neg (by simp),if_pos (.inr hbg)] at eE;have eT:=HT.out;rw [eE,if_neg (by decide)] at eT
     have HR:=(show Hid (SE=2/\ST=⟨#[]⟩) from ⟨eE,eT⟩)
     clear eE eT HE HT;go_wp2_with fail
     go_ret2
     exact ⟨by rw [HR.out.1,HR.out.2];rfl,B⟩
    ·have d2:decide ((16384:Int)<(RN:Int)+(WT.size:Int))=false:=dF (by omega);have eE:=HE.out;rw [if_neg (by simp),if_neg (by simp),if_neg (fun h=>by omega)] at eE;have eT:=HT.out;rw [eE] at eT
     have HR:=(show Hid (SE=E3/\ST=if E3=0 then s.extract 0 RN++WT else ⟨#[]⟩) from ⟨eE,eT⟩)
     clear eE eT HE HT;have CD:=CD0.out;go_upto_region 9 with fail
     obtain ⟨u,hu⟩:∃ u,u=w2:=⟨_,rfl⟩
     rw [<-hu] at X hx B |-
     clear hu
     have HSS:Hid (∀ w',Below u.heap.size u w'->(fun w':World=>w'.cell? ⟨w.heap.size,0,none⟩=some (.int .i64 k)/\w'.cell? ⟨w.heap.size,1,none⟩=some (.int .i64 n)/\w'.cell? ⟨w.heap.size,2,none⟩=some (.string nm)/\w'.cell? ⟨w.heap.size,3,none⟩=some (.string tx)) w'):=fun w' h9=>⟨(X.next h9).c0,(X.next h9).c1,(X.next h9).c2,(X.next h9).c3⟩
     have CD:Hid (∀ w',Below u.heap.size u w'->Calls Tryz.prog 87 #[.slice ad N cap] w' fun e w2=>ZbJ AD w' e w2):=fun w' h9=>CD0.out w' ad cap (bch B h9 (nl _)) (hx.below h9)
     have CO:Hid (∀ w' p cp q cq,Below u.heap.size u w'->ArV w' p q AD->Calls Tryz.prog 36 #[.agg #[.slice p AD.dicts.length cp,.slice q AD.files.length cq],.agg #[.int .i64 k,.int .i64 n,.string nm,.string tx]] w' fun e w2=>ArSaid w' A2 E3 e w2):=fun w' p cp q cq h9 hv=>CO0.out w' p cp q cq (bch B h9 (nl _)) hv
     clear CD0 CO0 hx;go_cut [10,11] from 39 to 45 (fun _ x wx=>x=.int .i64 E3/\Below u.heap.size u wx)
     case first =>
      clear HR;have G0:=(bR u.heap.size u).drew;refine wp_region_held_drew (S:=fun w'=>w'.cell? ⟨w.heap.size,0,none⟩=some (.int .i64 k)/\w'.cell? ⟨w.heap.size,1,none⟩=some (.int .i64 n)/\w'.cell? ⟨w.heap.size,2,none⟩=some (.string nm)/\w'.cell? ⟨w.heap.size,3,none⟩=some (.string tx)) (by kernel_rfl) (HSS.out _ G0) (fun hS=>?_);refine wK (i:=0) (fuel:=9) (v:=.slice ad N cap) rfl (by kernel_rfl) (by kernel_rfl) (by kernel_rfl) (fun _ _ _ h=>h) (Or.inl ⟨by rfl,fun w' h9=>by obtain ⟨k1,k2,k3,k4⟩:=h9;go_simp⟩) hS ?_;refine wK (i:=2) (fuel:=8) (v:=.agg #[.int .i64 k,.int .i64 n,.string nm,.string tx]) rfl (by kernel_rfl) (by kernel_rfl) (by kernel_rfl) (fun _ _ _ h=>h) (Or.inl ⟨by rfl,fun w' h9=>by obtain ⟨k1,k2,k3,k4⟩:=h9;go_simp⟩) hS ?_;refine wY (rs:=[1,7]) (fuel:=7) (by kernel_rfl) (by simp) ?_;refine rC rfl (fun K hK=>?_) (rC rfl (fun K hK=>?_) rN)
      ·go_simp
       go_at_call 87
       refine (CD.out _ G0).mono ?_;rintro e wd ⟨v1,v2,rfl,OD,GD⟩;obtain ⟨p,cp,q,cq,rfl,rfl,VD⟩:=OD.slices;have G1:=bch G0 GD (nl _);refine hK.out _ _ (HSS.out _ G1) (fun hS1=>?_);clear hK;generalize AD.dicts.length=D at *;generalize AD.files.length=F at *;refine wY (rs:=[3,7]) (fuel:=6) (by kernel_rfl) (by simp) ?_;refine rC rfl (fun K hK=>?_) (rC rfl (fun K hK=>?_) rN)
       ·go_simp
        go_at_call 36
        refine (CO.out _ _ _ _ _ G1 VD).mono ?_;intro e wo h1;obtain ⟨p2,q2,p3,q3,rfl,_,GO⟩:=h1.own;have G2:=bch G1 GO (nl _);refine hK.out _ _ (HSS.out _ G2) (fun hS2=>?_);clear hK h1;generalize A2.dicts.length=D2 at *;generalize A2.files.length=F2 at *;refine wK (i:=4) (fuel:=5) (v:=.tuple #[.agg #[.slice p2 D2 q2,.slice p3 F2 q3],.int .i64 E3]) rfl (by kernel_rfl) (by kernel_rfl) (by kernel_rfl) (fun _ _ _ h=>h) (Or.inl ⟨by rfl,fun w' h9=>by obtain ⟨k1,k2,k3,k4⟩:=h9;go_simp⟩) hS2 ?_;refine wK (i:=5) (fuel:=4) (v:=.agg #[.slice p2 D2 q2,.slice p3 F2 q3]) rfl (by kernel_rfl) (by kernel_rfl) (by kernel_rfl) (fun _ _ _ h=>h) (Or.inl ⟨by rfl,fun w' h9=>by obtain ⟨k1,k2,k3,k4⟩:=h9;go_simp⟩) hS2 ?_;refine wK (i:=6) (fuel:=3) (v:=.int .i64 E3) rfl (by kernel_rfl) (by kernel_rfl) (by kernel_rfl) (fun _ _ _ h=>h) (Or.inl ⟨by rfl,fun w' h9=>by obtain ⟨k1,k2,k3,k4⟩:=h9;go_simp⟩) hS2 ?_;refine wY (rs:=[7]) (fuel:=2) (by kernel_rfl) (by simp) ?_;refine rC rfl (fun K hK=>?_) rN;go_simp
        have G3:Below u.heap.size u (wo.alloc (.cells #[.slice none 0 0,.slice none 0 0] 25 (0,0))):=bch G2 (Za wo (.cells #[.slice none 0 0,.slice none 0 0] 25 (0,0))) (nl _);have XN:=Bx.new wo (.slice none 0 0) (.slice none 0 0);have hbN0:u.heap.size<=wo.heap.size:=G2.size;refine hK.out _ _ (HSS.out _ G3) (fun hS3=>?_);clear hK;generalize (wo.alloc (.cells #[.slice none 0 0,.slice none 0 0] 25 (0,0)))=wa at *
        obtain ⟨bN,hbn⟩:∃ bN,bN=wo.heap.size:=⟨_,rfl⟩
        rw [<-hbn] at XN |-
        have hbN:u.heap.size<=bN:=by rw [hbn];exact hbN0
        clear hbn hbN0;refine wY (rs:=[8]) (fuel:=1) (by kernel_rfl) (by simp) ?_;refine rC rfl (fun K hK=>?_) rN;have x0:=XN.c0;have x1:=XN.c1;have f0:=XN.f0;have f1:=XN.f1;have x1':=(cO wa ⟨bN,0,none⟩ ⟨bN,1,none⟩ (.slice p2 D2 q2) (by simp)).trans x1;have G9:=Zp G3 (b:=bN) hbN (.slice p2 D2 q2) (.slice p3 F2 q3);go_simp
        refine hK.out _ _ (HSS.out _ G9) (fun hS9=>?_);clear hK x0 x1 f0 f1 x1';refine wY (rs:=[9]) (fuel:=0) (by kernel_rfl) (by simp) ?_;refine rC rfl (fun K hK=>?_) rN;go_simp
        refine hK.out _ _ hS9 (fun _=>?_);clear hK;refine ⟨by kernel_rfl,?_⟩;go_wp2_with fail
        go_meet
        exact ⟨rfl,G9⟩
       ·go_simp
        have G2:Below u.heap.size u (wd.alloc (.cells #[.slice none 0 0,.slice none 0 0] 25 (0,0))):=bch G1 (Za wd (.cells #[.slice none 0 0,.slice none 0 0] 25 (0,0))) (nl _);have XN:=Bx.new wd (.slice none 0 0) (.slice none 0 0);have hbN0:u.heap.size<=wd.heap.size:=G1.size;refine hK.out _ _ (HSS.out _ G2) (fun hS3=>?_);clear hK;have AB:=Za wd (.cells #[.slice none 0 0,.slice none 0 0] 25 (0,0));generalize (wd.alloc (.cells #[.slice none 0 0,.slice none 0 0] 25 (0,0)))=wa at *
        obtain ⟨bN,hbn⟩:∃ bN,bN=wd.heap.size:=⟨_,rfl⟩
        rw [<-hbn] at XN |-
        have hbN:u.heap.size<=bN:=by rw [hbn];exact hbN0
        clear hbn hbN0;have VA:=VD.below (show Below wd.heap.size wd wa from AB);refine wY (rs:=[3]) (fuel:=5) (by kernel_rfl) (by simp) ?_;refine rC rfl (fun K hK=>?_) rN;go_simp
        go_at_call 36
        refine (CO.out _ _ _ _ _ G2 VA).mono ?_;intro e wo h1;obtain ⟨p2,q2,p3,q3,rfl,_,GO⟩:=h1.own;have G3:=bch G2 GO (nl _);refine hK.out _ _ (HSS.out _ G3) (fun hS2=>?_);clear hK h1;generalize A2.dicts.length=D2 at *;generalize A2.files.length=F2 at *;have XN:=XN.next GO;refine wK (i:=4) (fuel:=4) (v:=.tuple #[.agg #[.slice p2 D2 q2,.slice p3 F2 q3],.int .i64 E3]) rfl (by kernel_rfl) (by kernel_rfl) (by kernel_rfl) (fun _ _ _ h=>h) (Or.inl ⟨by rfl,fun w' h9=>by obtain ⟨k1,k2,k3,k4⟩:=h9;go_simp⟩) hS2 ?_;refine wK (i:=5) (fuel:=3) (v:=.agg #[.slice p2 D2 q2,.slice p3 F2 q3]) rfl (by kernel_rfl) (by kernel_rfl) (by kernel_rfl) (fun _ _ _ h=>h) (Or.inl ⟨by rfl,fun w' h9=>by obtain ⟨k1,k2,k3,k4⟩:=h9;go_simp⟩) hS2 ?_;refine wK (i:=6) (fuel:=2) (v:=.int .i64 E3) rfl (by kernel_rfl) (by kernel_rfl) (by kernel_rfl) (fun _ _ _ h=>h) (Or.inl ⟨by rfl,fun w' h9=>by obtain ⟨k1,k2,k3,k4⟩:=h9;go_simp⟩) hS2 ?_;refine wY (rs:=[8]) (fuel:=1) (by kernel_rfl) (by simp) ?_;refine rC rfl (fun K hK=>?_) rN;have x0:=XN.c0;have x1:=XN.c1;have f0:=XN.f0;have f1:=XN.f1;have x1':=(cO wo ⟨bN,0,none⟩ ⟨bN,1,none⟩ (.slice p2 D2 q2) (by simp)).trans x1;have G9:=Zp G3 (b:=bN) hbN (.slice p2 D2 q2) (.slice p3 F2 q3);go_simp
        refine hK.out _ _ (HSS.out _ G9) (fun hS9=>?_);clear hK x0 x1 f0 f1 x1';refine wY (rs:=[9]) (fuel:=0) (by kernel_rfl) (by simp) ?_;refine rC rfl (fun K hK=>?_) rN;go_simp
        refine hK.out _ _ hS9 (fun _=>?_);clear hK;refine ⟨by kernel_rfl,?_⟩;go_wp2_with fail
        go_meet
        exact ⟨rfl,G9⟩
      ·go_simp
       have G1:Below u.heap.size u (u.alloc (.cells #[.slice none 0 0,.slice none 0 0] 25 (0,0))).drew:=(Za u (.cells #[.slice none 0 0,.slice none 0 0] 25 (0,0))).drew;have XN:=(Bx.new u (.slice none 0 0) (.slice none 0 0)).next ((bR _ _).drew);have hbN0:u.heap.size<=u.heap.size:=nl _;refine hK.out _ _ (HSS.out _ G1) (fun hS3=>?_);clear hK;generalize (u.alloc (.cells #[.slice none 0 0,.slice none 0 0] 25 (0,0))).drew=wa at *
       obtain ⟨bN,hbn⟩:∃ bN,bN=u.heap.size:=⟨_,rfl⟩
       rw [<-hbn] at XN |-
       have hbN:u.heap.size<=bN:=by rw [hbn];exact hbN0
       clear hbn hbN0;refine wY (rs:=[1]) (fuel:=6) (by kernel_rfl) (by simp) ?_;refine rC rfl (fun K hK=>?_) rN;go_simp
       go_at_call 87
       refine (CD.out _ G1).mono ?_;rintro e wd ⟨v1,v2,rfl,OD,GD⟩;obtain ⟨p,cp,q,cq,rfl,rfl,VD⟩:=OD.slices;have G2:=bch G1 GD (nl _);refine hK.out _ _ (HSS.out _ G2) (fun hS1=>?_);clear hK;generalize AD.dicts.length=D at *;generalize AD.files.length=F at *;have XN:=XN.next GD;refine wY (rs:=[3]) (fuel:=5) (by kernel_rfl) (by simp) ?_;refine rC rfl (fun K hK=>?_) rN;go_simp
       go_at_call 36
       refine (CO.out _ _ _ _ _ G2 VD).mono ?_;intro e wo h1;obtain ⟨p2,q2,p3,q3,rfl,_,GO⟩:=h1.own;have G3:=bch G2 GO (nl _);refine hK.out _ _ (HSS.out _ G3) (fun hS2=>?_);clear hK h1;generalize A2.dicts.length=D2 at *;generalize A2.files.length=F2 at *;have XN:=XN.next GO;refine wK (i:=4) (fuel:=4) (v:=.tuple #[.agg #[.slice p2 D2 q2,.slice p3 F2 q3],.int .i64 E3]) rfl (by kernel_rfl) (by kernel_rfl) (by kernel_rfl) (fun _ _ _ h=>h) (Or.inl ⟨by rfl,fun w' h9=>by obtain ⟨k1,k2,k3,k4⟩:=h9;go_simp⟩) hS2 ?_;refine wK (i:=5) (fuel:=3) (v:=.agg #[.slice p2 D2 q2,.slice p3 F2 q3]) rfl (by kernel_rfl) (by kernel_rfl) (by kernel_rfl) (fun _ _ _ h=>h) (Or.inl ⟨by rfl,fun w' h9=>by obtain ⟨k1,k2,k3,k4⟩:=h9;go_simp⟩) hS2 ?_;refine wK (i:=6) (fuel:=2) (v:=.int .i64 E3) rfl (by kernel_rfl) (by kernel_rfl) (by kernel_rfl) (fun _ _ _ h=>h) (Or.inl ⟨by rfl,fun w' h9=>by obtain ⟨k1,k2,k3,k4⟩:=h9;go_simp⟩) hS2 ?_;refine wY (rs:=[8]) (fuel:=1) (by kernel_rfl) (by simp) ?_;refine rC rfl (fun K hK=>?_) rN;have x0:=XN.c0;have x1:=XN.c1;have f0:=XN.f0;have f1:=XN.f1;have x1':=(cO wo ⟨bN,0,none⟩ ⟨bN,1,none⟩ (.slice p2 D2 q2) (by simp)).trans x1;have G9:=Zp G3 (b:=bN) hbN (.slice p2 D2 q2) (.slice p3 F2 q3);go_simp
       refine hK.out _ _ (HSS.out _ G9) (fun hS9=>?_);clear hK x0 x1 f0 f1 x1';refine wY (rs:=[9]) (fuel:=0) (by kernel_rfl) (by simp) ?_;refine rC rfl (fun K hK=>?_) rN;go_simp
       refine hK.out _ _ hS9 (fun _=>?_);clear hK;refine ⟨by kernel_rfl,?_⟩;go_wp2_with fail
       go_meet
       exact ⟨rfl,G9⟩
     case rest =>
      obtain ⟨rfl,G⟩:=hcut;have X:=X.next G;have B:=bch B G (nl _);clear G HSS CD CO;by_cases hE3:E3=0
      ·subst hE3;have hri:(RN:Int)<=(s.size:Int):=by omega
       have hb9:¬ 9223372036854775807<RN+WT.size:=by omega
       go_wp2_with fail
       go_ret2
       exact ⟨by rw [HR.out.1,HR.out.2,if_pos trivial];rfl,B⟩
      ·have dE:(E3 == 0)=false:=by simpa using hE3
       go_wp2_with fail
       go_ret2
       exact ⟨by rw [HR.out.1,HR.out.2,if_neg hE3];rfl,B⟩
  ·have dA:(AE == 0)=false:=by simpa using hAE
   have eE:=HE.out;rw [if_neg (by simp),if_pos hAE] at eE;have eT:=HT.out;rw [eE,if_neg hAE] at eT
   have HR:=(show Hid (SE=AE/\ST=⟨#[]⟩) from ⟨eE,eT⟩)
   clear eE eT HE HT;go_wp2_with fail
   go_ret2
   exact ⟨by rw [HR.out.1,HR.out.2];rfl,B⟩
 ·have dR:(RE == 0)=false:=by simpa using hRE
  have eE:=HE.out;rw [if_pos hRE] at eE;have eT:=HT.out;rw [eE,if_neg hRE] at eT
  have HR:=(show Hid (SE=RE/\ST=⟨#[]⟩) from ⟨eE,eT⟩)
  clear eE eT HE HT;go_wp2_with fail
  go_ret2
  exact ⟨by rw [HR.out.1,HR.out.2];rfl,B⟩
theorem Zgp (s1 s2 b t3:ByteArray) (A:Ar.A) (l:List Im.Act) (w:World) (z1:s1.size<=100) (z2:b.size<=100) (hA:A.dicts.length=1) (hF:A.files.length=1) (hl:l.length=1) (hb:(b.toList == [5,1,2,1,97,0])=true)
 (C1:Hid (∀ w',Below w.heap.size w w'->Calls Tryz.prog 46 #[.string ⟨#[]⟩,.agg #[.int .i64 1,.int .i64 0,.string ⟨#[97]⟩,.string ⟨#[120,121,122]⟩]] w' fun e w2=>e=.returned (.tuple #[.string s1,.int .i64 0])/\Below w'.heap.size w' w2))
 (C2:Hid (∀ w',Below w.heap.size w w'->Calls Tryz.prog 46 #[.string (s1++⟨#[7]⟩),.agg #[.int .i64 3,.int .i64 8,.string ⟨#[]⟩,.string ⟨#[]⟩]] w' fun e w2=>e=.returned (.tuple #[.string s2,.int .i64 0])/\Below w'.heap.size w' w2))
 (C3:Hid (∀ w',Below w.heap.size w w'->Calls Tryz.prog 45 #[.string s2] w' fun e w2=>Zca A 2 0 w' e w2))
 (C4:Hid (∀ w',Below w.heap.size w w'->Calls Tryz.prog 46 #[.string s2,.agg #[.int .i64 2,.int .i64 0,.string ⟨#[98]⟩,.string ⟨#[]⟩]] w' fun e w2=>e=.returned (.tuple #[.string t3,.int .i64 5])/\Below w'.heap.size w' w2))
 (C5:Hid (∀ w',Calls Tryz.prog 39 #[.agg #[.int .i64 1,.int .i64 2,.string ⟨#[97]⟩,.string ⟨#[]⟩]] w' fun e w2=>e=.returned (.tuple #[.string b,.int .i64 0])/\Below w'.heap.size w' w2))
 (C6:Hid (∀ w',Calls Tryz.prog 42 #[.string (b++⟨#[120]⟩)] w' fun e w2=>RpSaid l 6 0 w' e w2)) :
 Calls Tryz.prog 38 #[] w fun e w'=>e=.returned (.bool true)/\Below w.heap.size w w':=by
 have O3:Hid (∀ (w:World) (e:Ending) (w':World),Zca A 2 0 w e w'->∃ x p y q,e=.returned (.tuple #[.agg #[.slice x 1 p,.slice y 1 q],.int .i64 2,.int .i64 0])/\Below w.heap.size w w'):=fun w e w' h=>by
  obtain ⟨v1,v2,rfl,O,G⟩:=h;obtain ⟨x,p,y,q,rfl,rfl,_⟩:=O.slices;exact ⟨x,p,y,q,by rw [hA,hF];rfl,G⟩
 have O6:Hid (∀ (w:World) (e:Ending) (w':World),RpSaid l 6 0 w e w'->∃ x p,e=.returned (.tuple #[.slice x 1 p,.int .i64 6,.int .i64 0])/\Below w.heap.size w w'):=fun w e w' h=>by
  obtain ⟨x,p,rfl,_,G⟩:=h.open;exact ⟨x,p,by rw [hl];rfl,G⟩
 clear hA hF hl;go_enter Tryz.func38,Tryz.ntmps38
 go_wp2_with fail
 refine (C1.out _ (bR _ _)).mono ?_;rintro e w1 ⟨rfl,B⟩;clear C1;go_wp2_with fail
 refine (C2.out _ B).mono ?_;rintro e w2 ⟨rfl,G⟩;have B:=bch B G (nl _);clear C2 G;go_wp2_with fail
 refine (C3.out _ B).mono ?_;intro e w3 h1;obtain ⟨x,p,y,q,rfl,G⟩:=O3.out _ _ _ h1;have GA:=Za w3 (.cells #[.slice x 1 p,.slice y 1 q] 25 (0,0));have X:=Bx.new w3 (.slice x 1 p) (.slice y 1 q);have B:=bch (bch B G (nl _)) GA (nl _);clear C3 G GA h1 O3;go_wp2_with fail
 generalize (w3.alloc (.cells #[.slice x 1 p,.slice y 1 q] 25 (0,0)))=u3 at *;generalize w3.heap.size=bA at *;refine (C4.out _ B).mono ?_;rintro e w4 ⟨rfl,G⟩;have B:=bch B G (nl _);have X:=X.next G;clear C4 G;go_wp2_with fail
 refine (C5.out _).mono ?_;rintro e w5 ⟨rfl,G⟩;have B:=bch B G (nl _);have X:=X.next G;clear C5 G;go_wp2_with fail
 refine (C6.out _).mono ?_;intro e w6 h1;obtain ⟨x6,p6,rfl,G⟩:=O6.out _ _ _ h1;have B:=bch B G (nl _);have X:=X.next G;clear C6 G h1 O6;have x0:=X.c0;have x1:=X.c1;clear X;go_wp2_with fail
 go_ret
 exact ⟨rfl,B⟩
namespace Im
def l1:ByteArray:=⟨#[8,1,0,1,97,3,120,121,122]⟩
def l2:ByteArray:=⟨#[8,1,0,1,97,3,120,121,122,4,3,8,0,0]⟩
def l4:ByteArray:=⟨#[5,1,2,1,97,0]⟩
theorem b1e:stoE ⟨#[]⟩ ⟨1,0,⟨#[97]⟩,⟨#[120,121,122]⟩⟩=0:=by kernel_rfl
theorem b1t:stoT ⟨#[]⟩ ⟨1,0,⟨#[97]⟩,⟨#[120,121,122]⟩⟩=l1:=by kernel_rfl
theorem b2e:stoE (l1++⟨#[7]⟩) ⟨3,8,⟨#[]⟩,⟨#[]⟩⟩=0:=by kernel_rfl
theorem b2t:stoT (l1++⟨#[7]⟩) ⟨3,8,⟨#[]⟩,⟨#[]⟩⟩=l2:=by kernel_rfl
theorem b3n:(rplL l2).length=2:=by kernel_rfl
theorem b3d:(done (rplL l2)).dicts.length=1:=by kernel_rfl
theorem b3f:(done (rplL l2)).files.length=1:=by kernel_rfl
theorem b3e:rplE l2=0:=by kernel_rfl
theorem b4e:stoE l2 ⟨2,0,⟨#[98]⟩,⟨#[]⟩⟩=5:=by kernel_rfl
theorem b5t:wrtT ⟨1,2,⟨#[97]⟩,⟨#[]⟩⟩=l4:=by kernel_rfl
theorem b5e:actE ⟨1,2,⟨#[97]⟩,⟨#[]⟩⟩=0:=by kernel_rfl
theorem b6l:(rplL (l4++⟨#[120]⟩)).length=1:=by kernel_rfl
theorem b6n:rplN (l4++⟨#[120]⟩)=6:=by kernel_rfl
theorem b6e:rplE (l4++⟨#[120]⟩)=0:=by kernel_rfl
theorem b7:Nat.ble l1.size 100=true:=by kernel_rfl
theorem b9:Nat.ble l4.size 100=true:=by kernel_rfl
theorem b8:(l4.toList == [5,1,2,1,97,0])=true:=by kernel_rfl
end Im
theorem ZdP (a b c:UInt8):(⟨#[]⟩:ByteArray).size<=140737488355328/\(⟨#[a]⟩:ByteArray).size<=140737488355328/\(⟨#[a,b,c]⟩:ByteArray).size<=140737488355328:=by
 refine ⟨?_,?_,?_⟩
 ·show 0<=_;omega
 ·show 1<=_;omega
 ·show 3<=_;omega
theorem Zvd (w:World) (hM:Mx w):Calls Tryz.prog 46 #[.string ⟨#[]⟩,.agg #[.int .i64 1,.int .i64 0,.string ⟨#[97]⟩,.string ⟨#[120,121,122]⟩]] w fun e w2=>e=.returned (.tuple #[.string Im.l1,.int .i64 0])/\Below w.heap.size w w2:=by
 have h:=ZcP ⟨#[]⟩ 1 0 ⟨#[97]⟩ ⟨#[120,121,122]⟩ w (ZdP 97 0 0).2.1 (ZdP 120 121 122).2.2 hM;rw [Im.b1t,Im.b1e] at h;exact h
theorem Zvc (w:World) (hM:Mx w):Calls Tryz.prog 46 #[.string (Im.l1++⟨#[7]⟩),.agg #[.int .i64 3,.int .i64 8,.string ⟨#[]⟩,.string ⟨#[]⟩]] w fun e w2=>e=.returned (.tuple #[.string Im.l2,.int .i64 0])/\Below w.heap.size w w2:=by
 have h:=ZcP (Im.l1++⟨#[7]⟩) 3 8 ⟨#[]⟩ ⟨#[]⟩ w (ZdP 0 0 0).1 (ZdP 0 0 0).1 hM;rw [Im.b2t,Im.b2e] at h;exact h
theorem Zvj (w:World) (hM:Mx w):Calls Tryz.prog 46 #[.string Im.l2,.agg #[.int .i64 2,.int .i64 0,.string ⟨#[98]⟩,.string ⟨#[]⟩]] w fun e w2=>e=.returned (.tuple #[.string (Im.stoT Im.l2 ⟨2,0,⟨#[98]⟩,⟨#[]⟩⟩),.int .i64 5])/\Below w.heap.size w w2:=by
 have h:=ZcP Im.l2 2 0 ⟨#[98]⟩ ⟨#[]⟩ w (ZdP 98 0 0).2.1 (ZdP 0 0 0).1 hM;rw [Im.b4e] at h;exact h
theorem Zvf (w:World) (hM:Mx w):Calls Tryz.prog 45 #[.string Im.l2] w fun e w2=>Zca (Im.done (Im.rplL Im.l2)) 2 0 w e w2:=by
 have h:=Zen Im.l2 w hM;rw [Im.b3n,Im.b3e] at h;exact h
theorem Zvu (w:World):Calls Tryz.prog 39 #[.agg #[.int .i64 1,.int .i64 2,.string ⟨#[97]⟩,.string ⟨#[]⟩]] w fun e w2=>e=.returned (.tuple #[.string Im.l4,.int .i64 0])/\Below w.heap.size w w2:=by
 have h:=ZdL 1 2 ⟨#[97]⟩ ⟨#[]⟩ w (nt (ZdP 97 0 0).2.1 (by omega)) (nt (ZdP 0 0 0).1 (by omega));rw [Im.b5t,Im.b5e] at h;exact h
theorem Zvp (w:World):Calls Tryz.prog 42 #[.string (Im.l4++⟨#[120]⟩)] w fun e w2=>RpSaid (Im.rplL (Im.l4++⟨#[120]⟩)) 6 0 w e w2:=by
 have h:=Zdh (Im.l4++⟨#[120]⟩) w;rw [Im.b6n,Im.b6e] at h;exact h
theorem Zdy (w:World) (hM:Mx w):Calls Tryz.prog 38 #[] w fun e w'=>e=.returned (.bool true)/\Below w.heap.size w w' :=
 Zgp Im.l1 Im.l2 Im.l4 _ _ _ w (Nat.le_of_ble_eq_true Im.b7) (Nat.le_of_ble_eq_true Im.b9) Im.b3d Im.b3f Im.b6l Im.b8 (fun w' h9=>Zvd w' (hM.below h9)) (fun w' h9=>Zvc w' (hM.below h9)) (fun w' h9=>Zvf w' (hM.below h9)) (fun w' h9=>Zvj w' (hM.below h9)) (fun w'=>Zvu w') (fun w'=>Zvp w')
theorem Zjn (ad af ad' af':Option Addr) (cd cf cd' cf':Nat) (a:Ar.A) (w:World) (h:ArV w ad af a) (h':ArV w ad' af' a) (hD:a.dicts.length<=8796093022208) (hN:a.files.length<=8796093022208) :
 Calls Tryz.prog 20 #[av ad cd af cf a,av ad' cd' af' cf' a] w fun e w'=>e=.returned (.bool true)/\Below w.heap.size w w':=by
 have hb:=fun o p=>((bR w.heap.size w).alloc (nl _) o).alloc (by simp) p
 have HX:Hid (∀ w',Below w.heap.size w w'->∀ k,k<a.dicts.length->∃ b off,ad=some ⟨b,off,none⟩/\b<w'.heap.size/\w'.cell? ⟨b,off+k,none⟩=some (.string (Tr.xa a.dicts k))):=fun w' hb k hk=>(h.ds.below hb).at hk
 have HX':Hid (∀ w',Below w.heap.size w w'->∀ k,k<a.dicts.length->∃ b off,ad'=some ⟨b,off,none⟩/\b<w'.heap.size/\w'.cell? ⟨b,off+k,none⟩=some (.string (Tr.xa a.dicts k))):=fun w' hb k hk=>(h'.ds.below hb).at hk
 have HF:Hid (∀ w',Below w.heap.size w w'->∀ k,k<a.files.length->∃ b off,af=some ⟨b,off,none⟩/\b<w'.heap.size/\FlC w' b (off+k*5) (Ar.fa a.files k)):=fun w' h9 k hk=>(h.fs.below h9).at hk
 have HF':Hid (∀ w',Below w.heap.size w w'->∀ k,k<a.files.length->∃ b off,af'=some ⟨b,off,none⟩/\b<w'.heap.size/\FlC w' b (off+k*5) (Ar.fa a.files k)):=fun w' h9 k hk=>(h'.fs.below h9).at hk
 unfold av;clear h h';generalize a.dicts.length=D at *;generalize a.files.length=N at *;have hDi:(D:Int)<=8796093022208:=by omega
 have hNi:(N:Int)<=8796093022208:=by omega
 go_enter Tryz.func20,Tryz.ntmps20
 go_wp2_with fail
 obtain ⟨k1,k2⟩:=box2 w #[.slice ad D cd,.slice af N cf] #[.slice ad' D cd',.slice af' N cf'] 25 25;have B1:=hb (.cells #[.slice ad D cd,.slice af N cf] 25 (0,0)) (.cells #[.slice ad' D cd',.slice af' N cf'] 25 (0,0));generalize ((w.alloc (.cells #[.slice ad D cd,.slice af N cf] 25 (0,0))).alloc (.cells #[.slice ad' D cd',.slice af' N cf'] 25 (0,0)))=w1 at *;have a0:w1.cell? ⟨w.heap.size,0,none⟩=some (.slice ad D cd):=k1 0;have a1:w1.cell? ⟨w.heap.size,1,none⟩=some (.slice af N cf):=k1 1;have b0:w1.cell? ⟨w.heap.size+1,0,none⟩=some (.slice ad' D cd'):=k2 0;have b1:w1.cell? ⟨w.heap.size+1,1,none⟩=some (.slice af' N cf'):=k2 1;clear k1 k2;go_loopw [5] (fun i wr=>∃ k:Nat,k<=D/\i=.int .i64 k/\(∀ p,wr.cell? p=w1.cell? p)/\Below w.heap.size w wr) (fun i _=>D - (intOf i).toNat)
 case atStart=>exact ⟨0,by omega,rfl,fun _=>rfl,B1⟩
 case round =>
  obtain ⟨k,hk2,rfl,hsame,B2⟩:=hrel;have a0':=(hsame _).trans a0;have b0':=(hsame _).trans b0;have a1':=(hsame _).trans a1;have b1':=(hsame _).trans b1;by_cases hlt:k<D
  ·have d1:decide ((k:Int)<(D:Int))=true:=by simp;omega
   have d1':decide (k<D)=true:=by simp;omega
   have hki:(k:Int)<(D:Int):=by omega
   obtain ⟨b,off,rfl,hbl,hc⟩:=HX.out wr B2 k hlt;obtain ⟨b',off',rfl,hbl',hc'⟩:=HX'.out wr B2 k hlt;have HSm:Hid (∀ p,wr.cell? p=w1.cell? p):=hsame;clear hsame;generalize Tr.xa a.dicts k=X at *;go_wp2_with fail
   go_region
   all_goals
    go_wp2_with fail
    go_roundw
    case rel=>exact ⟨k+1,by omega,by go_num,fun p=>HSm.out p,B2.drew⟩
    case measure=>simp [intOf];omega
  ·obtain rfl:k=D:=by omega
   have d1:decide ((k:Int)<(k:Int))=false:=by simp
   have HSm:Hid (∀ p,wr.cell? p=w1.cell? p):=hsame;clear hsame;go_wp2_with fail
   go_loopw [6] (fun i w2=>∃ m:Nat,m<=N/\i=.int .i64 m/\(∀ p,w2.cell? p=w1.cell? p)/\Below w.heap.size w w2) (fun i _=>N - (intOf i).toNat)
   case atStart=>exact ⟨0,by omega,rfl,HSm.out,B2⟩
   case round =>
    obtain ⟨m,hm2,rfl,hsame2,B3⟩:=hrel;have a2:=(hsame2 _).trans a1;have b2:=(hsame2 _).trans b1;have HSm2:Hid (∀ p,World.cell? _ p=w1.cell? p):=hsame2;clear hsame2 a0' b0' a1' b1';by_cases hlt:m<N
    ·have d2:decide ((m:Int)<(N:Int))=true:=by simp;omega
     have d2':decide (m<N)=true:=by simp;omega
     have hmi:(m:Int)<(N:Int):=by omega
     obtain ⟨b,off,rfl,hbl,hcell⟩:=HF.out _ B3 m hlt;obtain ⟨c0,c1,c2,c3,c4⟩:=hcell;obtain ⟨b',off',rfl,hbl',hcell'⟩:=HF'.out _ B3 m hlt;obtain ⟨e0,e1,e2,e3,e4⟩:=hcell';generalize (Ar.fa a.files m).name=f0 at *;generalize (Ar.fa a.files m).dict=f1 at *;generalize (Ar.fa a.files m).size=f2 at *;generalize (Ar.fa a.files m).sum=f3 at *;generalize (Ar.fa a.files m).blk=f4 at *;go_wp2_with fail
     go_region
     all_goals
      go_wp2_with fail
      go_roundw
      case rel=>exact ⟨m+1,by omega,by go_num,fun p=>HSm2.out p,B3.drew⟩
      case measure=>simp [intOf];omega
    ·obtain rfl:m=N:=by omega
     have d2:decide ((m:Int)<(m:Int))=false:=by simp
     go_wp2_with fail
     go_ret
     exact ⟨rfl,B3⟩
open Go.ChangeShapes Go.WideShapes Go.Deep
theorem Zcu {H:Type} {P:Program} {e:TypeId} {f:Nat->DataW H} {n i:Nat} (hi:i<n) {m:Nat} (h:m ∈ (f i).weights P e):m ∈ DataW.weightsAll P e ((List.range n).map f):=by
 have gen:∀ (l:List (DataW H)) (d:DataW H),d ∈ l->m ∈ d.weights P e->m ∈ DataW.weightsAll P e l:=by
  intro l
  induction l with
  | nil=>intro d h;simp at h
  | cons a l ih =>
   intro d hd hm;rw [DataW.weightsAll,List.mem_append];rcases List.mem_cons.1 hd with rfl | hd
   ·exact .inl hm
   ·exact .inr (ih d hd hm)
 exact gen _ (f i) (List.mem_map.2 ⟨i,List.mem_range.2 hi,rfl⟩) h
theorem Zrq {W:World} {a:Addr} {n:Nat} {ps:List MemPlace} (h:∀ x ∈ MemPlace.row a (n+1)++ps,x.block<W.heap.size):a.block<W.heap.size:=by
 refine h (.cell a.block (a.off+0)) ?_;rw [List.mem_append]
 left
 exact List.mem_map.2 ⟨0,List.mem_range.2 (by omega),rfl⟩
theorem Zic:laidOutB Tryz.prog=true:=by kernel_rfl
theorem Zqi:Tryz.prog.cellsOf 9=1:=by kernel_rfl
theorem ZpR:Tryz.prog.bytesOf 9=16:=by kernel_rfl
theorem Zln {H:Type} {enc:TypeId × Value->H} {W:World} {a:Option Addr} {len cap fuel:Nat} {d:DataW H} {ps:List MemPlace}
 (hf:DataW.trod enc Tryz.prog W 0 (fun _=>true) true fuel 22 [.slice a len cap]=some (d,ps))
 (hsz:∀ n ∈ d.weights Tryz.prog 22,n<=reachBytes) :
 ∃ l:List ByteArray,len=l.length/\TxSl W a l/\l.length<=8796093022208/\(∀ i,(Tr.xa l i).size<=140737488355328):=by
 have lt:∀ x ∈ ps,x.block<W.heap.size:=DataW.trod_lt fuel _ _ _ hf;rcases open_slice1 U22 Zqi hf with ⟨hcs,_⟩ | ⟨x,len',cap',m,n,V,D,Pl,hcs,_,hl,hm,hmm,hx,each⟩
 ·simp at hcs;obtain ⟨rfl,rfl,rfl⟩:=hcs;exact ⟨[],rfl,.inl rfl,by simp,fun i=>by show 0<=_;omega⟩
 ·simp at hcs;obtain ⟨rfl,rfl,rfl⟩:=hcs;simp only [if_true] at hmm;subst hmm;have hx1:=congrArg Prod.fst hx;have hx2:=congrArg Prod.snd hx;dsimp only at hx1 hx2;rw [hx1] at hsz;rw [hx2] at lt;clear hx hx1 hx2 hf
  have key:∀ i,i<m->∃ q:ByteArray,W.cell? (x.add i)=some (.string q)/\D i=.lit (.string q.data.toList):=by
   intro i hi;obtain ⟨h1,h2⟩:=each i hi;obtain ⟨s,hs0,hy0,_⟩:=DataW.trod_string U9 h2;simp only [List.cons.injEq,and_true] at hs0;rw [hs0] at h1;exact ⟨s,h1,congrArg Prod.fst hy0⟩
  have:Inhabited ByteArray:=⟨⟨#[]⟩⟩
  obtain ⟨q,hq⟩:=choose_lt key;have hlen:((List.range len).map q).length=len:=by simp
  have hxa:∀ i,i<len->Tr.xa ((List.range len).map q) i=q i:=fun i hi=>by simp [Tr.xa,hi]
  refine ⟨(List.range len).map q,hlen.symm,?_,?_,?_⟩
  ·by_cases h0:len=0
   ·left;simp [h0]
   ·right
    obtain ⟨b,off,sp⟩:=x;have hc0:=(hq 0 (by omega)).1;have hsp:sp=none:=by simpa [Addr.add] using World.cell?_spot hc0
    subst hsp
    have hb:b<W.heap.size:=by
     rw [show m=(m - 1)+1 by omega] at lt;exact Zrq lt
    refine ⟨b,off,rfl,hb,fun i hi=>?_⟩;rw [hlen] at hi;rw [hxa i hi,<-(hq i (by omega)).1,add_plain]
  ·rw [hlen];have:=hsz ((((List.range len).map D).length+((List.range (m - len)).map fun j=>D (len+j)).length)*Tryz.prog.bytesOf 9) (by rw [DataW.weights,Tryz.underlying22];exact List.mem_cons_self ..);rw [ZpR] at this;simp [reachBytes] at this;omega
  ·intro i;by_cases hi:i<len
   ·rw [hxa i hi];have hd:=(hq i (by omega)).2
    have hw:(q i).data.toList.length ∈ (D i).weights Tryz.prog 9:=by
     rw [hd,DataW.weights];exact List.mem_singleton.2 rfl
    have:=hsz _ (by rw [DataW.weights,Tryz.underlying22];exact List.mem_cons_of_mem _ (List.mem_append.2 (.inl (Zcu hi hw))));have h2:(q i).data.toList.length=(q i).size:=by simp
    rw [h2] at this;simp [reachBytes] at this;omega
   ·have:Tr.xa ((List.range len).map q) i=⟨#[]⟩:=by simp [Tr.xa,show len<=i by omega]
    rw [this];show 0<=_;omega
theorem Zkx:Tryz.prog.cellsOf 46=5:=by kernel_rfl
theorem Zpr:Tryz.prog.bytesOf 46=56:=by kernel_rfl
theorem Zrs:Tryz.prog.cellsOf 9=1:=by kernel_rfl
theorem Zrb:Tryz.prog.cellsOf 3=1:=by kernel_rfl
theorem Zpa:Tryz.prog.cellsOf 25=2:=by kernel_rfl
theorem ZuE:Tryz.prog.cellsOf 22=1:=by kernel_rfl
theorem ZuF:Tryz.prog.cellsOf 23=1:=by kernel_rfl
def ZaO:Option TypeDesc->List (TypeId × Nat)
 | some (.struct fs)=>fs.toList.map (fun f=>(f.type,f.offset))
 | _=>[]
theorem ZsN {u:Option TypeDesc} {a0 a1 a2 a3 a4:TypeId × Nat} (h:ZaO u=[a0,a1,a2,a3,a4]):∃ f0 f1 f2 f3 f4:Field,u=some (.struct #[f0,f1,f2,f3,f4])/\(f0.type=a0.1/\f0.offset=a0.2)/\(f1.type=a1.1/\f1.offset=a1.2)/\(f2.type=a2.1/\f2.offset=a2.2)/\(f3.type=a3.1/\f3.offset=a3.2)/\(f4.type=a4.1/\f4.offset=a4.2):=by
 unfold ZaO at h;split at h
 ·rename_i fs0
  obtain ⟨fs⟩:=fs0
  match fs,h with
  | [f0,f1,f2,f3,f4],h =>
   simp at h;obtain ⟨rfl,rfl,rfl,rfl,rfl⟩:=h;exact ⟨f0,f1,f2,f3,f4,rfl,⟨rfl,rfl⟩,⟨rfl,rfl⟩,⟨rfl,rfl⟩,⟨rfl,rfl⟩,⟨rfl,rfl⟩⟩
  | [],h=>simp at h
  | [_],h=>simp at h
  | [_,_],h=>simp at h
  | [_,_,_],h=>simp at h
  | [_,_,_,_],h=>simp at h
  | _ :: _ :: _ :: _ :: _ :: _ :: _,h=>simp at h
 ·simp at h
theorem Zto {u:Option TypeDesc} {a0 a1:TypeId × Nat} (h:ZaO u=[a0,a1]):∃ f0 f1:Field,u=some (.struct #[f0,f1])/\(f0.type=a0.1/\f0.offset=a0.2)/\(f1.type=a1.1/\f1.offset=a1.2):=by
 unfold ZaO at h;split at h
 ·rename_i fs0
  obtain ⟨fs⟩:=fs0
  match fs,h with
  | [f0,f1],h =>
   simp at h;obtain ⟨rfl,rfl⟩:=h;exact ⟨f0,f1,rfl,⟨rfl,rfl⟩,⟨rfl,rfl⟩⟩
  | [],h=>simp at h
  | [_],h=>simp at h
  | _ :: _ :: _ :: _,h=>simp at h
 ·simp at h
theorem ZnD:ZaO (Tryz.prog.underlying 46)=[(9,0),(3,1),(3,2),(3,3),(9,4)]:=by kernel_rfl
theorem ZoQ:ZaO (Tryz.prog.underlying 25)=[(22,0),(23,1)]:=by kernel_rfl
theorem len5 {α:Type} {l:List α} (h:l.length=5):∃ a b c d e,l=[a,b,c,d,e]:=by
 match l,h with
 | [a,b,c,d,e],_=>exact ⟨a,b,c,d,e,rfl⟩
theorem len2 {α:Type} {l:List α} (h:l.length=2):∃ a b,l=[a,b]:=by
 match l,h with
 | [a,b],_=>exact ⟨a,b,rfl⟩
theorem Zli {H:Type} {enc:TypeId × Value->H} {W:World} {a:Option Addr} {len cap fuel:Nat} {d:DataW H} {ps:List MemPlace}
 (hf:DataW.trod enc Tryz.prog W 0 (fun _=>true) true fuel 23 [.slice a len cap]=some (d,ps))
 (hsz:∀ n ∈ d.weights Tryz.prog 23,n<=reachBytes) :
 ∃ l:List Ar.F,len=l.length/\FlSl W a l/\l.length*56<=140737488355328/\(∀ f ∈ l,f.name.size<=140737488355328/\f.blk.size<=140737488355328):=by
 obtain ⟨f0,f1,f2,f3,f4,hs,⟨t0,o0⟩,⟨t1,o1⟩,⟨t2,o2⟩,⟨t3,o3⟩,⟨t4,o4⟩⟩:=ZsN ZnD;have lt:∀ x ∈ ps,x.block<W.heap.size:=DataW.trod_lt fuel _ _ _ hf;rcases open_slice U23 hf with ⟨hcs,_⟩ | ⟨x,len',cap',m,n,D,Pl,hcs,_,hl,hm,hmm,hx,each⟩
 ·simp at hcs;obtain ⟨rfl,rfl,rfl⟩:=hcs;exact ⟨[],rfl,.inl rfl,by simp,by simp⟩
 ·simp at hcs;obtain ⟨rfl,rfl,rfl⟩:=hcs;simp only [if_true] at hmm;subst hmm;have hx1:=congrArg Prod.fst hx;have hx2:=congrArg Prod.snd hx;dsimp only at hx1 hx2;rw [hx1] at hsz;rw [hx2] at lt;clear hx hx1 hx2 hf
  have key:∀ i,i<m->∃ q:Ar.F,W.cell? (x.add (i*5))=some (.string q.name)/\W.cell? (x.add (i*5+1))=some (.int .i64 q.dict)/\W.cell? (x.add (i*5+2))=some (.int .i64 q.size)/\W.cell? (x.add (i*5+3))=some (.int .i64 q.sum)/\W.cell? (x.add (i*5+4))=some (.string q.blk)/\D i=.agg [.lit (.string q.name.data.toList),.lit (.int .i64 q.dict),.lit (.int .i64 q.size),.lit (.int .i64 q.sum),.lit (.string q.blk.data.toList)]:=by
   intro i hi;obtain ⟨cs',h1,h2⟩:=each i hi;rw [Zkx] at h1;obtain ⟨_,hlen,hcell⟩:=World.cells?_some h1;obtain ⟨xs,k,hk,hxy,_,hxl,hfs⟩:=DataW.trod_struct hs h2;obtain ⟨y0,y1,y2,y3,y4,rfl⟩:=len5 (show xs.length=5 from hxl);obtain ⟨v0,v1,v2,v3,v4,rfl⟩:=len5 hlen;have g0:=hfs 0 f0 rfl;have g1:=hfs 1 f1 rfl;have g2:=hfs 2 f2 rfl;have g3:=hfs 3 f3 rfl;have g4:=hfs 4 f4 rfl;simp [t0,o0,t1,o1,t2,o2,t3,o3,t4,o4,Zrs,Zrb] at g0 g1 g2 g3 g4;have e0:=hcell 0 (by omega);have e1:=hcell 1 (by omega);have e2:=hcell 2 (by omega);have e3:=hcell 3 (by omega);have e4:=hcell 4 (by omega);rw [add_add] at e0 e1 e2 e3 e4;obtain ⟨s,hs0,hy0,_⟩:=DataW.trod_string U9 g0;obtain ⟨p,hp0,hy1,_⟩:=DataW.trod_int zU3 g1;obtain ⟨r,hr0,hy2,_⟩:=DataW.trod_int zU3 g2;obtain ⟨u,hu0,hy3,_⟩:=DataW.trod_int zU3 g3;obtain ⟨z,hz0,hy4,_⟩:=DataW.trod_string U9 g4;simp only [List.cons.injEq,and_true] at hs0 hp0 hr0 hu0 hz0;subst hs0 hp0 hr0 hu0 hz0 hy0 hy1 hy2 hy3 hy4;simp only [Prod.mk.injEq] at hxy;exact ⟨⟨s,p,r,u,z⟩,by simpa using e0,by simpa using e1,by simpa using e2,by simpa using e3,by simpa using e4,by simpa using hxy.1⟩
  have:Inhabited Ar.F:=⟨Ar.fz⟩
  obtain ⟨q,hq⟩:=choose_lt key;have hlen:((List.range len).map q).length=len:=by simp
  refine ⟨(List.range len).map q,hlen.symm,?_,?_,?_⟩
  ·by_cases h0:len=0
   ·left;simp [h0]
   ·right
    obtain ⟨b,off,sp⟩:=x;have hc0:=(hq 0 (by omega)).1;have hsp:sp=none:=by simpa [Addr.add] using World.cell?_spot hc0
    subst hsp
    have hb:b<W.heap.size:=by
     rw [Zkx,show m*5=(m*5 - 1)+1 by omega] at lt;exact Zrq lt
    refine ⟨b,off,rfl,hb,fun i hi=>?_⟩;rw [hlen] at hi;obtain ⟨q0,q1,q2,q3,q4,_⟩:=hq i (by omega);have e:Ar.fa ((List.range len).map q) i=q i:=by simp [Ar.fa,hi]
    rw [e];refine ⟨?_,?_,?_,?_,?_⟩
    ·rw [<-q0,add_plain]
    ·rw [<-q1,add_plain,Nat.add_assoc]
    ·rw [<-q2,add_plain,Nat.add_assoc]
    ·rw [<-q3,add_plain,Nat.add_assoc]
    ·rw [<-q4,add_plain,Nat.add_assoc]
  ·rw [hlen];have:=hsz ((((List.range len).map D).length+((List.range (m - len)).map fun j=>D (len+j)).length)*Tryz.prog.bytesOf 46) (by rw [DataW.weights,Tryz.underlying23];exact List.mem_cons_self ..);rw [Zpr] at this;simp [reachBytes] at this;omega
  ·intro t ht;obtain ⟨i,hi,rfl⟩:=List.mem_map.1 ht;have hi':=List.mem_range.1 hi;have hd:=(hq i (by omega)).2.2.2.2.2
   have hw1:(q i).name.data.toList.length ∈ (D i).weights Tryz.prog 46:=by
    rw [hd,DataW.weights,hs];simp only [List.map_cons,List.map_nil];rw [DataW.weightsEach,List.mem_append]
    left
    rw [DataW.weights];exact List.mem_singleton.2 rfl
   have hw2:(q i).blk.data.toList.length ∈ (D i).weights Tryz.prog 46:=by
    rw [hd,DataW.weights,hs];simp only [List.map_cons,List.map_nil];rw [DataW.weightsEach,List.mem_append]
    right
    rw [DataW.weightsEach,List.mem_append]
    right
    rw [DataW.weightsEach,List.mem_append]
    right
    rw [DataW.weightsEach,List.mem_append]
    right
    rw [DataW.weightsEach,List.mem_append]
    left
    rw [DataW.weights];exact List.mem_singleton.2 rfl
   have k1:=hsz _ (by rw [DataW.weights,Tryz.underlying23];exact List.mem_cons_of_mem _ (List.mem_append.2 (.inl (Zcu hi' hw1))));have k2:=hsz _ (by rw [DataW.weights,Tryz.underlying23];exact List.mem_cons_of_mem _ (List.mem_append.2 (.inl (Zcu hi' hw2))));have j1:(q i).name.data.toList.length=(q i).name.size:=by simp
   have j2:(q i).blk.data.toList.length=(q i).blk.size:=by simp
   rw [j1] at k1;rw [j2] at k2;simp [reachBytes] at k1 k2;omega
theorem Zji {H:Type} {enc:TypeId × Value->H} {P:Program} {W:World} {fuel:Nat} {t e:TypeId} {v:Value} {x:DataW H × List MemPlace} (hu:P.underlying t=some (.slice e)) (h:DataW.trod enc P W 0 (fun _=>true) true fuel t [v]=some x):∃ a len cap,v=.slice a len cap:=by
 rcases DataW.trod_slice hu h with ⟨h1,_⟩ | ⟨a,len,cap,_,_,_,_,h1,_⟩
 ·simp at h1;exact ⟨_,_,_,h1⟩
 ·simp at h1;exact ⟨_,_,_,h1⟩
theorem ZoL {H:Type} {enc:TypeId × Value->H} {W:World} {v:Value} {d:DataW H} {ps:List MemPlace} {r:Reach} {b0:Nat}
 (hv:Value.okWide Tryz.prog W r b0 25 v)
 (h:DataW.Trod enc Tryz.prog W 0 (fun _=>true) true 25 v d ps)
 (hsz:∀ n ∈ d.weights Tryz.prog 25,n<=reachBytes) :
 ∃ ad cd af cf a,v=av ad cd af cf a/\ArV W ad af a/\SaneA a/\a.files.length*56<=140737488355328:=by
 obtain ⟨f0,f1,hs,⟨t0,o0⟩,⟨t1,o1⟩⟩:=Zto ZoQ;obtain ⟨xs0,rfl,_⟩:=okWide_struct hs hv;obtain ⟨xs⟩:=xs0;obtain ⟨fuel,hf⟩:=h;obtain ⟨y0,y1,n,hx,hl,g0,g1⟩:=trod_struct2 hs hf;rw [Zpa] at hl;simp only [Value.cells] at hl g0 g1;obtain ⟨v0,v1,rfl⟩:=len2 hl;simp [t0,o0,t1,o1,ZuE,ZuF] at g0 g1;obtain ⟨ad,n1,cd,rfl⟩:=Zji U22 g0;obtain ⟨af,n2,cf,rfl⟩:=Zji U23 g1;have hd:=congrArg Prod.fst hx;dsimp only at hd
 have hw:∀ n,n ∈ y0.1.weights Tryz.prog 22\/n ∈ y1.1.weights Tryz.prog 23->n<=reachBytes:=by
  intro n hn;refine hsz n ?_;rw [hd,DataW.weights,hs];simp only [List.map_cons,List.map_nil,t0,t1];rw [DataW.weightsEach,List.mem_append,DataW.weightsEach,List.mem_append];rcases hn with hn | hn
  ·exact .inl hn
  ·exact .inr (.inl hn)
 obtain ⟨l1,rfl,S1,N1,M1⟩:=Zln g0 (fun n hn=>hw n (.inl hn));obtain ⟨l2,rfl,S2,N2,M2⟩:=Zli g1 (fun n hn=>hw n (.inr hn));refine ⟨ad,cd,af,cf,⟨l1,l2⟩,rfl,⟨S1,S2⟩,Zdp N1 (by show l2.length<=_;omega) (fun d hd=>?_) M2,N2⟩;obtain ⟨i,hi,rfl⟩:=List.getElem_of_mem hd;have:=M1 i;simpa [Tr.xa,hi] using this
theorem ZpE:Tryz.prog.cellsOf 54=4:=by kernel_rfl
theorem ZmP {u:Option TypeDesc} {a0 a1 a2 a3:TypeId × Nat} (h:ZaO u=[a0,a1,a2,a3]):∃ f0 f1 f2 f3:Field,u=some (.struct #[f0,f1,f2,f3])/\(f0.type=a0.1/\f0.offset=a0.2)/\(f1.type=a1.1/\f1.offset=a1.2)/\(f2.type=a2.1/\f2.offset=a2.2)/\(f3.type=a3.1/\f3.offset=a3.2):=by
 unfold ZaO at h;split at h
 ·rename_i fs0
  obtain ⟨fs⟩:=fs0
  match fs,h with
  | [f0,f1,f2,f3],h =>
   simp at h;obtain ⟨rfl,rfl,rfl,rfl⟩:=h;exact ⟨f0,f1,f2,f3,rfl,⟨rfl,rfl⟩,⟨rfl,rfl⟩,⟨rfl,rfl⟩,⟨rfl,rfl⟩⟩
  | [],h=>simp at h
  | [_],h=>simp at h
  | [_,_],h=>simp at h
  | [_,_,_],h=>simp at h
  | _ :: _ :: _ :: _ :: _ :: _,h=>simp at h
 ·simp at h
theorem Zhb:ZaO (Tryz.prog.underlying 54)=[(3,0),(3,1),(9,2),(9,3)]:=by kernel_rfl
theorem len4 {α:Type} {l:List α} (h:l.length=4):∃ a b c d,l=[a,b,c,d]:=by
 match l,h with
 | [a,b,c,d],_=>exact ⟨a,b,c,d,rfl⟩
theorem ZlB {H:Type} {enc:TypeId × Value->H} {W:World} {fuel:Nat} {cs:List Value} {x:DataW H × List MemPlace} (h:DataW.trod enc Tryz.prog W 0 (fun _=>true) true fuel 54 cs=some x) :
 ∃ q:Im.Act,cs=[.int .i64 q.kind,.int .i64 q.n,.string q.name,.string q.text]/\x.1=.agg [.lit (.int .i64 q.kind),.lit (.int .i64 q.n),.lit (.string q.name.data.toList),.lit (.string q.text.data.toList)]/\∀ m,m=q.name.size\/m=q.text.size->m ∈ x.1.weights Tryz.prog 54:=by
 obtain ⟨f0,f1,f2,f3,hs,⟨t0,o0⟩,⟨t1,o1⟩,⟨t2,o2⟩,⟨t3,o3⟩⟩:=ZmP Zhb;obtain ⟨xs,k,hk,hxy,hlen,hxl,hfs⟩:=DataW.trod_struct hs h;rw [ZpE] at hlen;obtain ⟨y0,y1,y2,y3,rfl⟩:=len4 (show xs.length=4 from hxl);obtain ⟨v0,v1,v2,v3,rfl⟩:=len4 hlen;have g0:=hfs 0 f0 rfl;have g1:=hfs 1 f1 rfl;have g2:=hfs 2 f2 rfl;have g3:=hfs 3 f3 rfl;simp [t0,o0,t1,o1,t2,o2,t3,o3,Zrs,Zrb] at g0 g1 g2 g3;obtain ⟨p,hp0,hy0,_⟩:=DataW.trod_int zU3 g0;obtain ⟨r,hr0,hy1,_⟩:=DataW.trod_int zU3 g1;obtain ⟨s,hs0,hy2,_⟩:=DataW.trod_string U9 g2;obtain ⟨z,hz0,hy3,_⟩:=DataW.trod_string U9 g3;simp only [List.cons.injEq,and_true] at hs0 hp0 hr0 hz0;subst hs0 hp0 hr0 hz0 hy0 hy1 hy2 hy3;have hd:=congrArg Prod.fst hxy;simp only [List.map_cons,List.map_nil] at hd;refine ⟨⟨p,r,s,z⟩,rfl,hd,fun m hm=>?_⟩;rw [hd,DataW.weights,hs];simp only [List.map_cons,List.map_nil];rw [DataW.weightsEach,List.mem_append,DataW.weightsEach,List.mem_append,DataW.weightsEach,List.mem_append,DataW.weightsEach,List.mem_append];rcases hm with rfl | rfl
 ·refine .inr (.inr (.inl ?_));rw [DataW.weights];exact List.mem_singleton.2 (by simp)
 ·refine .inr (.inr (.inr (.inl ?_)));rw [DataW.weights];exact List.mem_singleton.2 (by simp)
theorem Zkd {n:Nat} (h:n<=reachBytes):n<=140737488355328:=by simp [reachBytes] at h;omega
theorem Zjy {H:Type} {enc:TypeId × Value->H} {W:World} {v:Value} {d:DataW H} {ps:List MemPlace} {r:Reach} {b0:Nat}
 (hv:Value.okWide Tryz.prog W r b0 54 v)
 (h:DataW.Trod enc Tryz.prog W 0 (fun _=>true) true 54 v d ps)
 (hsz:∀ n ∈ d.weights Tryz.prog 54,n<=reachBytes) :
 ∃ k n nm tx,v=.agg #[.int .i64 k,.int .i64 n,.string nm,.string tx]/\nm.size<=140737488355328/\tx.size<=140737488355328:=by
 obtain ⟨f0,f1,f2,f3,hs,_⟩:=ZmP Zhb;obtain ⟨xs0,rfl,_⟩:=okWide_struct hs hv;obtain ⟨xs⟩:=xs0;obtain ⟨fuel,hf⟩:=h;obtain ⟨q,e1,_,e3⟩:=ZlB hf;simp only [Value.cells] at e1;exact ⟨q.kind,q.n,q.name,q.text,by rw [e1],Zkd (hsz _ (e3 _ (.inl rfl))),Zkd (hsz _ (e3 _ (.inr rfl)))⟩
namespace Im
end Im
structure Kp (wr:World) (p:Nat) (v:Value) (c:Nat):Prop where
 lt:c<wr.heap.size
 np:c ≠ p
 nv:v.ownBlock ≠ some c
theorem Kp.next {wr w':World} {p c:Nat} {v v':Value} (h:Kp wr p v c) (F:WF p wr w' v v'):Kp w' p v' c/\w'.heap[c]?=wr.heap[c]? :=
 ⟨⟨nT h.lt F.sz,h.np,fun e=>by
  rcases F.at_ c e with h9 | h9
  ·exact h.nv h9
  ·have:=h.lt;omega⟩,F.blk c h.lt h.np h.nv⟩
theorem Bx.blk {w w':World} {b:Nat} {x y:Value} (h:Bx w b x y) (hb:w'.heap[b]?=w.heap[b]?) (hz:w.heap.size<=w'.heap.size):Bx w' b x y :=
 ⟨(cB (w:=w) (a:=⟨b,0,none⟩) hb).trans h.c0,(cB (w:=w) (a:=⟨b,1,none⟩) hb).trans h.c1,(fB (w:=w) (a:=⟨b,0,none⟩) hb).trans h.f0,(fB (w:=w) (a:=⟨b,1,none⟩) hb).trans h.f1,nT h.lt hz⟩
theorem FB.blk {w w':World} {b:Nat} {f:Nat->Value} (h:FB w b f) (hb:w'.heap[b]?=w.heap[b]?):FB w' b f :=
 ⟨fun i hi=>(cB (w:=w) (a:=⟨b,i,none⟩) hb).trans (h.c i hi),fun i hi=>(fB (w:=w) (a:=⟨b,i,none⟩) hb).trans (h.z i hi)⟩
structure WS (w wr:World) (B p c:Nat) (v0 v:Value) (l:List UInt8) (x y:Value):Prop where
 f:WF p w wr v0 v
 t:Wtr B p wr v l 0
 b:Below B w wr
 x:Bx wr c x y
 k:Kp wr p v c
theorem WS.call {w wr w':World} {B p c:Nat} {v0 v:Value} {l l':List UInt8} {x y:Value} {e:Ending} (h:WS w wr B p c v0 v l x y) (s:ZcX B p wr v l' 0 e w'):e=.returned (.tuple #[])/\∃ v',WS w w' B p c v0 v' l' x y/\WF p wr w' v v':=by
 obtain ⟨he,G,v',T,F⟩:=s;obtain ⟨K,hb⟩:=h.k.next F;exact ⟨he,v',⟨h.f.trans F,T,h.b.trans G,h.x.blk hb F.sz,K⟩,F⟩
theorem WS.below {w wr w':World} {B p c:Nat} {v0 v:Value} {l:List UInt8} {x y:Value} (h:WS w wr B p c v0 v l x y) (G:Below wr.heap.size wr w'):WS w w' B p c v0 v l x y :=
 ⟨h.f.trans (WF.of G),h.t.below G,h.b.trans (G.mono (nL (Nat.lt_of_le_of_lt h.t.hp h.t.lt))),h.x.next G,⟨nT h.k.lt G.size,h.k.np,h.k.nv⟩⟩
namespace Cd
theorem Zml {f:Nat->Int} {s:ByteArray} (h:(wrt f s).2=0):(wrt f s).1.size<=5000:=by
 unfold wrt at h |-
 by_cases hc:chk f ≠ 0
 ·rw [if_pos hc] at h;exact absurd h hc
 ·rw [if_neg hc] at h |-
  by_cases hs:1024<s.size
  ·rw [if_pos hs] at h;simp at h
  ·rw [if_neg hs] at h |-
   cases hw:wrK f s s.size with
   | none=>rw [hw] at h;simp at h
   | some bs =>
    simp only;have:=Zdj (Zd (by simpa using hc)).1 _ _ hw;rw [Zex];omega
theorem Zqe {f:Nat->Int} {b:ByteArray} {n:Int} (h:(rd f b n).2=0):b.size<=5000:=by
 have h1:=(ZqY h).1;have h2:=Zml (f:=f) (s:=(rd f b n).1) (by rw [h1]);rw [h1] at h2;exact h2
end Cd
namespace Bk
theorem Zog {s:ByteArray} (h:(dec s).2=0):s.size<=6000:=by
 unfold dec at h;by_cases h8:s.size<8
 ·omega
 ·rw [if_neg h8] at h
  cases hq:Nm.Zl (s.extract 8 s.size).data.toList with
  | none=>rw [hq] at h;simp at h
  | some x =>
   obtain ⟨n,k⟩:=x;rw [hq] at h;simp only at h;by_cases h0:(Cd.rd (pt (s.extract 0 8)) ((s.extract 8 s.size).extract k (s.extract 8 s.size).size) (n:Nat)).2=0
   ·have:=Cd.Zqe h0;have hk:=Nm.Zai hq;simp only [Zn] at this;omega
   ·rw [if_neg h0] at h;simp at h
theorem Zos {dict b:ByteArray} (h:(unp dict b).2=0):b.size<=7000:=by
 have hx:(b.extract 1 b.size).size=b.size - 1:=by rw [Zn];omega
 unfold unp at h;by_cases hd:256<dict.size
 ·rw [if_pos hd] at h;simp at h
 ·rw [if_neg hd] at h;by_cases hb:b.size=0
  ·omega
  ·rw [if_neg hb] at h;by_cases h0:Cd.at8 b 0=0
   ·rw [if_pos h0] at h;unfold whl at h;by_cases h5:512<(b.extract 1 b.size).size
    ·rw [if_pos h5] at h;simp at h
    ·omega
   ·rw [if_neg h0] at h;by_cases h1:Cd.at8 b 0=1
    ·rw [if_pos h1] at h;unfold ply at h;by_cases h5:1024<(b.extract 1 b.size).size
     ·rw [Zdx (by omega) h5] at h;simp at h
     ·omega
    ·rw [if_neg h1] at h;by_cases h2:Cd.at8 b 0=2
     ·rw [if_pos h2] at h;by_cases h3:(dec (b.extract 1 b.size)).2=0
      ·have:=Zog h3;omega
      ·rw [if_neg h3] at h;exact absurd h h3
     ·rw [if_neg h2] at h;simp at h
end Bk
namespace Im
theorem ZiB {α:Type} (enc:α->B) (M:Nat):∀ l:List α,(∀ x ∈ l,(enc x).length<=M)->(flat enc l).length<=l.length*M
 | [],_=>by simp [flat]
 | x :: l,h=>by
  have h1:=ZiB enc M l (fun y hy=>h y (List.mem_cons_of_mem _ hy));have h2:=h x (List.mem_cons_self ..);simp only [flat,List.flatMap_cons,List.length_append,List.length_cons] at h1 |-
  rw [Nat.succ_mul];omega
theorem Zeu {t:ByteArray} {m:Nat} (h:t.size<=m) (hm:m<=100000):(tb t).length<=5+m:=by
 unfold tb;have:=Nm.Zt t.size (by omega);rw [List.length_append,<-Zj];omega
theorem Zqv {a:Ar.A} (h:Ar.chk a=0) {i:Nat} (hi:i<a.files.length):okF (Ar.fa a.files i)/\(Ar.fa a.files i).name.size<=12/\(Ar.fa a.files i).blk.size<=7000:=by
 obtain ⟨hm,hg⟩:=Ar.Zd.1 h;obtain ⟨m1,m2,m3⟩:=Ar.Zw.1 hm;obtain ⟨k1,_,k3⟩:=Ar.ZbP (Ar.Zfs hg hi);have hn:=Ar.ZtD k1;simp only [Ar.okf,Ar.has,Bool.and_eq_true,decide_eq_true_iff] at k3;obtain ⟨⟨d0,d1⟩,u0,u1,u2⟩:=k3;have hb:=Bk.Zos u0;have hz:=Bk.unp_size u0;have hs:=Zgm (Ar.up a.dicts (Ar.fa a.files i)).1 (Ar.up a.dicts (Ar.fa a.files i)).1.size;have hz':(Ar.up a.dicts (Ar.fa a.files i)).1.size<=512:=hz;unfold Ar.sm at u2;refine ⟨⟨by omega,⟨d0,by omega⟩,⟨by omega,by omega⟩,⟨by omega,by omega⟩,by omega⟩,hn,hb⟩
theorem Zhj {a:Ar.A} (h:Ar.chk a=0):OkA a/\(imgB a).length<=200000:=by
 obtain ⟨hm,hg⟩:=Ar.Zd.1 h;obtain ⟨m1,m2,m3⟩:=Ar.Zw.1 hm;have hd:=m3
 have hf:∀ f ∈ a.files,okF f/\f.name.size<=12/\f.blk.size<=7000:=fun f hf=>by
  obtain ⟨i,hi,rfl⟩:=List.getElem_of_mem hf;have:=Zqv h hi
  rwa [show Ar.fa a.files i=a.files[i] by simp [Ar.fa,hi]] at this
 refine ⟨⟨m1,fun d h9=>by have:=hd d h9;omega,m2,fun f h9=>(hf f h9).1⟩,?_⟩;have l1:=ZiB tb 300 a.dicts (fun d h9=>by have:=Zeu (hd d h9) (by omega);omega)
 have l2:=ZiB ZrL 7100 a.files (fun f h9=>by
  obtain ⟨⟨_,⟨_,q1⟩,⟨_,q2⟩,⟨_,q3⟩,_⟩,h2,h3⟩:=hf f h9;have t1:=Zeu h2 (by omega);have t2:=Zeu h3 (by omega);have n1:=Nm.Zt f.dict.toNat (by omega);have n2:=Nm.Zt f.size.toNat (by omega);have n3:=Nm.Zt f.sum.toNat (by omega);unfold ZrL;simp only [List.length_append]
  omega)
 have n1:=Nm.Zt a.dicts.length (by omega);have n2:=Nm.Zt a.files.length (by omega);have h4:a.dicts.length*300<=4*300:=Nat.mul_le_mul_right _ m1;have h5:a.files.length*7100<=12*7100:=Nat.mul_le_mul_right _ m2;have h6:mrk.length=5:=rfl;unfold imgB;simp only [List.length_append];omega
end Im
theorem ZbX (s:ByteArray) (w:World) (h:s.size<=2147483647) :
 Calls Tryz.prog 84 #[.string s] w fun e w'=>e=.returned (.string ⟨(Im.tb s).toArray⟩)/\Below w.heap.size w w':=by
 have h2:(s.size:Int)<=2147483647:=by omega
 have hc:=ZF s.size s.size w (by omega) (by omega) (by omega);rw [Int.toNat_natCast] at hc;have hl:=Nm.Zt s.size (by omega)
 have HT:Hid ((⟨(Im.tb s).toArray⟩:ByteArray)=⟨(Nm.nb s.size).toArray⟩++s):=by
  show _=_;apply Nm.ZG;simp [Im.tb]
 rw [HT.out];clear HT;go_enter Tryz.func84,Tryz.ntmps84
 go_wp2_with fail
 refine hc.mono ?_;rintro e w' ⟨rfl,G⟩;clear hc;generalize hL:Nm.nb s.size=L at *;have HL:Hid (Nm.nb s.size=L):=hL;clear hL;go_wp2_with fail
 go_ret
 exact ⟨by rw [HL.out];rfl,G⟩
theorem ZdC (k n:Int) (nm tx:ByteArray) (w:World) :
 Calls Tryz.prog 40 #[.agg #[.int .i64 k,.int .i64 n,.string nm,.string tx]] w fun e w'=>e=.returned (.int .i64 (Im.actE ⟨k,n,nm,tx⟩))/\Below w.heap.size w w':=by
 have B1:=Za w (.cells #[.int .i64 k,.int .i64 n,.string nm,.string tx] 54 (0,0));have X1:=XB.new w 54 k n nm tx;have CK:=fun w'=>ZJ k 0 2147483647 w'
 have CN:=fun w'=>ZJ n 0 2147483647 w'
 obtain ⟨x0,x1,x2,x3,_⟩:=id X1;by_cases h1:0<=k/\k<=2147483647
 ·simp only [decide_eq_true h1] at CK;by_cases h2:0<=n/\n<=2147483647
  ·simp only [decide_eq_true h2] at CN;by_cases h3:nm.size<=512
   ·have d3:decide ((nm.size:Int) > 512)=false:=dF (by omega);have d3':decide ((512:Int)<(nm.size:Int))=false:=dF (by omega);by_cases h4:tx.size<=512
    ·have d4:decide ((tx.size:Int) > 512)=false:=dF (by omega);have d4':decide ((512:Int)<(tx.size:Int))=false:=dF (by omega);have e:Im.actE ⟨k,n,nm,tx⟩=0:=Im.Zbv.2 ⟨h1,h2,h3,h4⟩;rw [e];clear e;go_enter Tryz.func40,Tryz.ntmps40
     go_wp2_with fail
     refine (CK _).mono ?_;rintro e w1 ⟨rfl,rfl⟩;go_wp2_with fail
     refine (CN _).mono ?_;rintro e w2 ⟨rfl,rfl⟩;go_wp2_with fail
     go_ret
     exact ⟨rfl,B1⟩
    ·have d4:decide ((tx.size:Int) > 512)=true:=zdT (by omega);have d4':decide ((512:Int)<(tx.size:Int))=true:=zdT (by omega);have e:Im.actE ⟨k,n,nm,tx⟩=2:=by unfold Im.actE;rw [if_pos ⟨h1,h2⟩,if_neg (fun h=>h4 h.2)]
     rw [e];clear e;go_enter Tryz.func40,Tryz.ntmps40
     go_wp2_with fail
     refine (CK _).mono ?_;rintro e w1 ⟨rfl,rfl⟩;go_wp2_with fail
     refine (CN _).mono ?_;rintro e w2 ⟨rfl,rfl⟩;go_wp2_with fail
     go_ret
     exact ⟨rfl,B1⟩
   ·have d3:decide ((nm.size:Int) > 512)=true:=zdT (by omega);have d3':decide ((512:Int)<(nm.size:Int))=true:=zdT (by omega);have e:Im.actE ⟨k,n,nm,tx⟩=2:=by unfold Im.actE;rw [if_pos ⟨h1,h2⟩,if_neg (fun h=>h3 h.1)]
    rw [e];clear e;go_enter Tryz.func40,Tryz.ntmps40
    go_wp2_with fail
    refine (CK _).mono ?_;rintro e w1 ⟨rfl,rfl⟩;go_wp2_with fail
    refine (CN _).mono ?_;rintro e w2 ⟨rfl,rfl⟩;go_wp2_with fail
    go_ret
    exact ⟨rfl,B1⟩
  ·simp only [decide_eq_false h2] at CN;have e:Im.actE ⟨k,n,nm,tx⟩=3:=by unfold Im.actE;rw [if_neg (fun h=>h2 h.2)]
   rw [e];clear e;go_enter Tryz.func40,Tryz.ntmps40
   go_wp2_with fail
   refine (CK _).mono ?_;rintro e w1 ⟨rfl,rfl⟩;go_wp2_with fail
   refine (CN _).mono ?_;rintro e w2 ⟨rfl,rfl⟩;go_wp2_with fail
   go_ret
   exact ⟨rfl,B1⟩
 ·simp only [decide_eq_false h1] at CK;have e:Im.actE ⟨k,n,nm,tx⟩=3:=by unfold Im.actE;rw [if_neg (fun h=>h1 h.1)]
  rw [e];clear e;go_enter Tryz.func40,Tryz.ntmps40
  go_wp2_with fail
  refine (CK _).mono ?_;rintro e w1 ⟨rfl,rfl⟩;go_wp2_with fail
  go_ret
  exact ⟨rfl,B1⟩
theorem ZkP (s:ByteArray) (w:World) (h:s.size<=2147483647) :
 Calls Tryz.prog 82 #[.string s] w fun e w'=>e=.returned (.string ⟨(Im.tb s).toArray⟩)/\Below w.heap.size w w':=by
 have h2:(s.size:Int)<=2147483647:=by omega
 have hc:=ZF s.size s.size w (by omega) (by omega) (by omega);rw [Int.toNat_natCast] at hc;have hl:=Nm.Zt s.size (by omega)
 have HT:Hid ((⟨(Im.tb s).toArray⟩:ByteArray)=⟨(Nm.nb s.size).toArray⟩++s):=by
  show _=_;apply Nm.ZG;simp [Im.tb]
 rw [HT.out];clear HT;go_enter Tryz.func82,Tryz.ntmps82
 go_wp2_with fail
 refine hc.mono ?_;rintro e w' ⟨rfl,G⟩;clear hc;generalize hL:Nm.nb s.size=L at *;have HL:Hid (Nm.nb s.size=L):=hL;clear hL;go_wp2_with fail
 go_ret
 exact ⟨by rw [HL.out];rfl,G⟩
theorem ZdN (a b:List UInt8):(⟨a.toArray⟩:ByteArray)++⟨b.toArray⟩=⟨(a++b).toArray⟩:=by
 apply Nm.ZG;simp
theorem Zdf (a:List UInt8):(⟨a.toArray⟩:ByteArray).size=a.length:=by rw [Im.Zj]
end Go.Proofs.YtbjbjbpgmojcbabGreat
