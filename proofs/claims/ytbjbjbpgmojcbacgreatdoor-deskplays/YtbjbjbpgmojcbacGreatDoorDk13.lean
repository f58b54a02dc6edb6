/- A part of the proof: what it leans on. -/
import Derived.Defers
import Derived.Recover
import Derived.Lib.ConvBytes
import Derived.Test.YtbjbjbpgmojcbacGreatDoorDk12
set_option maxRecDepth 4000
set_option maxHeartbeats 2000000
namespace Go.Proofs.YtbjbjbpgmojcbacGreatDoor
open Ar Bk Cd Dk Im Tk Tr Vy
open Tryz
variable{a:Ar.A}{tmps:Array Value}{g m:Bool}{er:Int}{fs:List Ar.F}{l l' r:List UInt8}{b c cap i lo n p:Nat}{f:Nat->Value}{v v' v1 v2 x y:Value}{w w' w0:World}
open Go.RowKit
namespace Ar
def VU(a:A)(size:Int)(f:F):F:=VN (V9 a size) f.name (WX a.aa f) (a.aa.length+1:Nat)
def Xh(a:A)(size:Int)(m:Nat):List F:=(a.files.take m).map (VU a size)++a.files.drop m
theorem Qk{size:Int}{m:Nat}(h:m<=a.files.length):(Xh a size m).length=a.files.length:=by
 unfold Xh;rw[List.length_append,List.length_map,List.length_take,List.length_drop];omega
theorem Ql(a:A)(size:Int):Xh a size 0=a.files:=by simp[Xh]
theorem Qm(a:A)(size:Int):Xh a size a.files.length=a.files.map (VU a size):=by simp[Xh]
theorem aaN{size:Int}{m:Nat}(h:m<a.files.length):Nm (Xh a size m) m=Nm a.files m/\Xh a size (m+1)=(Xh a size m).take m++VU a size (Nm a.files m) :: (Xh a size m).drop (m+1):=by
 have hl:((a.files.take m).map (VU a size)).length=m:=by rw[List.length_map,List.length_take];omega
 unfold Xh;rw[FK h,YL h,List.map_append];generalize (a.files.take m).map (VU a size)=P at*;generalize Nm a.files m=f at*;subst hl;constructor
 ·simp[Nm]
 ·simp
theorem Ad(h:Vz a=0):XI (aY a)=false:=by
 obtain⟨h1,h2⟩:=YS h;unfold XI;rw[Bool.or_eq_false_iff];refine⟨dF (by omega),?_⟩
 have:∀k,Xg (aY a) k=none:=by
  intro k
  induction k with
  |zero=>rfl
  |succ k ih =>
   rw[Xg,ih];simp only;rw[ab];by_cases hk:k<(aY a).length
   ·have:VA (aY a) k=(aY a)[k]:=by simp[VA,hk]
    rw[this];have:=h2 _ (gM hk);omega
   ·have:VA (aY a) k=⟨#[]⟩:=by simp[VA,hk]
    rw[this];show ¬512<0;omega
 rw[this];rfl
end Ar
theorem FT{g:Nat}(h:w.ownsRow lo 73 5 (.slice (some ⟨g,0,none⟩) fs.length cap) fs.length (aw fs))(hi:i<fs.length):(∀j,j<5->w.cell? ⟨g,i*5+j,none⟩=(fc (Nm fs i))[j]?)/\∀o,w.frozen? ⟨g,o,none⟩=false:=by
 have hcl:=iF fs;rcases h.2 with⟨h1,h2⟩|⟨g',cap',cur,h1,h2,h3,h4,h5,h6,h7⟩
 ·omega
 simp only[Value.slice.injEq,Option.some.injEq,Addr.mk.injEq]at h1;obtain⟨⟨rfl,_⟩,_,rfl⟩:=h1;refine⟨λj hj=>?_,sS h3⟩;rw[nV h3,<-Array.getElem?_toList];have e1:cur.toList[i*5+j]?=(aw fs)[i*5+j]?:=by rw[<-h7,List.getElem?_take,ax (by omega)]
 have e2:fs=fs.take i++Nm fs i :: fs.drop (i+1):=by
  have e3:Nm fs i=fs[i]:=by simp[Nm,hi]
  rw[e3,<-List.drop_eq_getElem_cons hi,List.take_append_drop]
 rw[e1,e2,ZE,List.getElem?_append_right (by rw[iF,List.length_take];omega),iF,List.length_take,show i*5+j-min i fs.length*5=j by omega,aw,List.getElem?_append_left (by simp;omega),<-e2];rfl
theorem cx.ik{wr:World}{C g n1:Nat}{xs1:List Value}(f:Ar.F)(h:cx w0 wr C lo v1 (.slice (some ⟨g,0,none⟩) fs.length cap) n1 fs.length xs1 (aw fs))(hi:i<fs.length) :
 cx w0 (fh wr g (i*5) (.string f.name) (.int .i64 f.dict) (.int .i64 f.size) (.int .i64 f.sum) (.string f.blk)) C lo v1 (.slice (some ⟨g,0,none⟩) fs.length cap) n1 fs.length xs1 (aw (fs.take i++f :: fs.drop (i+1))):=by
 have r1:=zO f h.o2 hi;have hsg:=vA wr g (i*5) (.string f.name) (.int .i64 f.dict) (.int .i64 f.size) (.int .i64 f.sum) (.string f.blk);have gN:some C≠some g:=λe=>h.a2 (show some g=some C from e.symm)
 have hg:=(h.o2.lt g rfl).1;refine⟨Zg hsg h.c0 gN,Zg hsg h.c1 gN,Zv hsg h.hb h.f0 gN,Zv hsg h.hb h.f1 gN,h.o1.kept hsg ?_,r1,h.ne,h.a1,h.a2,h.hC,nT h.hb hsg.size,vu h.bel g (i*5) _ _ _ _ _ hg⟩
 cases hv:v1.ownBlock with
 |none=>exact .inl rfl
 |some j=>exact .inr (λe=>h.ne j hv e.symm)
theorem aD.hand(h:aD lo w v1 v2 a):∃ad cd af cf,(.agg #[v1,v2]:Value)=av ad cd af cf a/\bo w ad af a:=by
 obtain⟨ad,cd,rfl,_,de⟩:=qk h.o1;have o2:=h.o2;rcases h.o2.2 with⟨rfl,h2⟩|⟨g,cap,cur,rfl,h2,h3,_⟩
 ·have e:=lZ.1 h2;exact⟨ad,cd,none,0,by unfold av;rw[h2],bE.sl de,.inl e⟩
 ·refine⟨ad,cd,some ⟨g,0,none⟩,cap,rfl,bE.sl de,.inr ⟨g,0,rfl,aG.1 h3 |>.1,λi hi=>?_⟩⟩;obtain⟨hat,_⟩:=FT o2 hi;rw[Nat.zero_add];exact⟨hat 0 (by omega),hat 1 (by omega),hat 2 (by omega),hat 3 (by omega),hat 4 (by omega)⟩
theorem Ae(h1:a.aa.length<=8796093022208)(h2:a.files.length<=8796093022208)(h3:∀d∈a.aa,d.size<=140737488355328)(h4:∀f∈a.files,f.name.size<=140737488355328/\f.blk.size<=140737488355328):ao a:=by
 have hf:∀i,(Nm a.files i).name.size<=140737488355328/\(Nm a.files i).blk.size<=140737488355328:=λi=>by
  by_cases hi:i<a.files.length
  ·rw[eP hi];exact h4 _ (gM hi)
  ·have e:Nm a.files i=Ar.fz:=by simp[Nm,hi]
   rw[e];exact⟨Nat.zero_le _,Nat.zero_le _⟩
 refine⟨h1,h2,λi=>?_,λi=>(hf i).1,λi=>(hf i).2⟩;by_cases hi:i<a.aa.length
 ·have e:VA a.aa i=a.aa[i]:=by simp[VA,hi]
  rw[e];exact h3 _ (gM hi)
 ·have e:VA a.aa i=⟨#[]⟩:=by simp[VA,hi]
  rw[e];exact Nat.zero_le _
theorem ao.mem(h:ao a):(∀d∈a.aa,d.size<=140737488355328)/\∀f∈a.files,f.name.size<=140737488355328/\f.blk.size<=140737488355328:=by
 constructor
 ·intro d hd;obtain⟨i,hi,rfl⟩:=List.getElem_of_mem hd;have:=h.ds i;simpa[VA,hi]using this
 ·intro f hf;obtain⟨i,hi,rfl⟩:=List.getElem_of_mem hf;have h1:=h.nm i;have h2:=h.bk i;rw[eP hi]at h1 h2;exact⟨h1,h2⟩
theorem FU:ao VC:=Ae (by decide) (by decide) (λd hd=>by cases hd) (λf hf=>by cases hf)
theorem zo{name text:ByteArray}{dict:Int}(h:aO a name text dict=0):Vz a=0/\bI name=true/\VY a.aa dict=true/\text.size<=512:=by
 unfold aO at h;by_cases hc:Vz a=0
 ·rw[ab (λh9=>h9 hc)]at h
  cases hm:bI name with
  |false=>rw[ax hm]at h;cases h
  |true =>
   rw[ab (by rw[hm];decide)]at h
   cases hd:VY a.aa dict with
   |false=>rw[ax hd]at h;cases h
   |true =>
    rw[ab (by rw[hd];decide)]at h;refine⟨hc,rfl,rfl,?_⟩;by_cases hl:512<text.size
    ·rw[ax (.inl hl)]at h;cases h
    ·omega
 ·rw[ax hc]at h;exact absurd h hc
theorem ao.put(h:ao a){name text:ByteArray}{dict:Int}(hn:name.size<=140737488355328):ao (bW a name text dict):=by
 by_cases he:aO a name text dict=0
 ·obtain⟨hc,_,_,ht⟩:=zo he;obtain⟨m1,m2,m3⟩:=Zj.1 (VV.1 hc).1;have e:bW a name text dict=⟨a.aa,V8 a.files (VN a.aa name text dict)⟩:=by unfold bW;rw[ax he]
  rw[e]
  have hb:(VN a.aa name text dict).blk.size<=513:=by
   have:=(zn (XJ (VV.1 hc).1 dict) ht).2.2;show(fD (V5 a.aa dict) text).1.size<=513;omega
  have hp:=Yg a.files name;refine Ae (by show a.aa.length<=_;omega) ?_ h.mem.1 (λf hf=>?_)
  ·show(V8 a.files (VN a.aa name text dict)).length<=_;unfold V8;rw[List.length_append,List.length_cons,List.length_take,List.length_drop];omega
  ·have hf':f∈V8 a.files (VN a.aa name text dict):=hf;unfold V8 at hf';rcases List.mem_append.1 hf' with hf'|hf'
   ·exact h.mem.2 f (List.mem_of_mem_take hf')
   ·rcases List.mem_cons.1 hf' with rfl|hf'
    ·exact⟨hn,by omega⟩
    ·exact h.mem.2 f (List.mem_of_mem_drop hf')
 ·have e:bW a name text dict=VC:=by unfold bW;rw[ab he]
  rw[e];exact FU
theorem ao.drop(h:ao a)(name:ByteArray):ao (Wf a name):=by
 unfold Wf;split
 ·refine Ae h.nd ?_ h.mem.1 (λf hf=>?_)
  ·show(a.files.take _++a.files.drop _).length<=_;rw[List.length_append,List.length_take,List.length_drop];have:=h.nf;omega
  ·have hf':f∈a.files.take (VG a.files name)++a.files.drop (VG a.files name+1):=hf;rcases List.mem_append.1 hf' with hf'|hf'
   ·exact h.mem.2 f (List.mem_of_mem_take hf')
   ·exact h.mem.2 f (List.mem_of_mem_drop hf')
 ·exact FU
structure Bx(w:World)(b:Nat)(x y:Value):Prop where
 c0:w.cell? ⟨b,0,none⟩=some x
 c1:w.cell? ⟨b,1,none⟩=some y
 f0:w.frozen? ⟨b,0,none⟩=false
 f1:w.frozen? ⟨b,1,none⟩=false
 lt:b<w.heap.size
theorem Bx.next(h:Bx w b x y)(G:ae w w'):Bx w' b x y :=
 ⟨(G.cell (p:=⟨b,0,none⟩) h.lt).trans h.c0,(G.cell (p:=⟨b,1,none⟩) h.lt).trans h.c1,(G.frozen (p:=⟨b,0,none⟩) h.lt).trans h.f0,(G.frozen (p:=⟨b,1,none⟩) h.lt).trans h.f1,nT h.lt G.size⟩
theorem Bx.new(w:World)(x y:Value):Bx (w.alloc (.cells #[x,y] 35 (0,0))) w.heap.size x y :=
 ⟨cN _ _ _ 0,cN _ _ _ 1,fN _ _ _ _ rfl,fN _ _ _ _ rfl,by simp⟩
theorem Bx.set{u:Value}(h:Bx w b x y):Bx ((w.setCell ⟨b,0,none⟩ u).setCell ⟨b,1,none⟩ v) b u v:=by
 refine⟨?_,?_,?_,?_,?_⟩
 ·exact(cO _ _ _ _ (by intro e;have:=congrArg Addr.off e;simp at this)).trans (cS _ _ _ h.c0)
 ·exact cS _ _ _ ((cO _ _ _ _ (by intro e;have:=congrArg Addr.off e;simp at this)).trans h.c1)
 ·rw[World.frozen?_setCell,World.frozen?_setCell];exact h.f0
 ·rw[World.frozen?_setCell,World.frozen?_setCell];exact h.f1
 ·have:=h.lt;simp[World.setCell];omega
theorem Bx.far(h:Bx w b x y)(hne:b≠c)(u v:Value):Bx ((w.setCell ⟨c,0,none⟩ u).setCell ⟨c,1,none⟩ v) b x y:=by
 refine⟨?_,?_,?_,?_,?_⟩
 ·exact(cO _ _ _ _ (by intro e;have:=congrArg Addr.block e;simp at this;omega)).trans ((cO _ _ _ _ (by intro e;have:=congrArg Addr.block e;simp at this;omega)).trans h.c0)
 ·exact(cO _ _ _ _ (by intro e;have:=congrArg Addr.block e;simp at this;omega)).trans ((cO _ _ _ _ (by intro e;have:=congrArg Addr.block e;simp at this;omega)).trans h.c1)
 ·rw[World.frozen?_setCell,World.frozen?_setCell];exact h.f0
 ·rw[World.frozen?_setCell,World.frozen?_setCell];exact h.f1
 ·have:=h.lt;simp[World.setCell];omega
theorem tg{B:Nat}(h:Below B w w'){b:Nat}(hb:B<=b)(u v:Value):Below B w ((w'.setCell ⟨b,0,none⟩ u).setCell ⟨b,1,none⟩ v):=(h.setCell hb _).setCell hb _
theorem Zb(w:World)(o:Obj):ae w (w.alloc o):=(Below.refl _ _).alloc (Nat.le_refl _) o
theorem aD.set2(h:aD lo w v1 v2 a){b:Nat}(hb:b<lo)(u v:Value):aD lo ((w.setCell ⟨b,0,none⟩ u).setCell ⟨b,1,none⟩ v) v1 v2 a:=by
 have g1:=Ze w ⟨b,0,none⟩ u;have g2:=Ze (w.setCell ⟨b,0,none⟩ u) ⟨b,1,none⟩ v;exact⟨(h.o1.kept g1 (.inr (ib h.o1 hb).symm)).kept g2 (.inr (ib h.o1 hb).symm),(h.o2.kept g1 (.inr (ib h.o2 hb).symm)).kept g2 (.inr (ib h.o2 hb).symm),h.ne⟩
theorem aD.next(h:aD lo w v1 v2 a)(G:ae w w'):aD lo w' v1 v2 a:=⟨Zz h.o1 G,Zz h.o2 G,h.ne⟩
theorem FV{base base':Nat}{e:TypeId}{size:Nat}{xs:List Value}(h:w.ownsRow base e size v n xs)(hb:base'<=base):w.ownsRow base' e size v n xs :=
 ⟨h.1,h.2.imp id (λ⟨g,cap,cur,h1,h2,h3⟩=>⟨g,cap,cur,h1,nt hb h2,h3⟩)⟩
theorem aD.low{lo':Nat}(h:aD lo w v1 v2 a)(hl:lo'<=lo):aD lo' w v1 v2 a:=⟨FV h.o1 hl,FV h.o2 hl,h.ne⟩
theorem aD.slices(h:aD lo w v1 v2 a):∃ad cd af cf,v1=.slice ad a.aa.length cd/\v2=.slice af a.files.length cf/\bo w ad af a:=by
 obtain⟨ad,cd,af,cf,he,hv⟩:=h.hand;unfold av at he;simp only[Value.agg.injEq,Array.mk.injEq,List.cons.injEq,and_true]at he;exact⟨ad,cd,af,cf,he.1,he.2,hv⟩
theorem ah.own{E:Int}{e:Ending}(h:ah w a E e w'):∃ad cd af cf,e=.returned (.tuple #[.agg #[.slice ad a.aa.length cd,.slice af a.files.length cf],.int .i64 E])/\aD w.heap.size w' (.slice ad a.aa.length cd) (.slice af a.files.length cf) a/\ae w w':=by
 obtain⟨v1,v2,rfl,ho,hb⟩:=h;obtain⟨ad,cd,af,cf,rfl,rfl,hv⟩:=ho.slices;exact⟨ad,cd,af,cf,rfl,ho,hb⟩
theorem Qn(p q:Nat)(x:Int)(b:Bool)(w:World)(hc:w.cell? ⟨p,0,none⟩=some (.int .i64 x))(hz:w.frozen? ⟨p,0,none⟩=false)(hc':w.cell? ⟨q,0,none⟩=some (.bool b))(hz':w.frozen? ⟨q,0,none⟩=false)(hpq:p≠q) :
 CallsD prog 150 #[.pointer (some ⟨p,0,none⟩),.pointer (some ⟨q,0,none⟩)] (.panicking PN) w λe u' w' =>
  e=.returned (.tuple #[])/\u'=.panicking [{ v:=.iface 22 (.int .i64 1),recovered:=true }]/\w'=(w.setCell ⟨p,0,none⟩ (.int .i64 0)).setCell ⟨q,0,none⟩ (.bool false):=by
 unfold PN;refine callsD_of_wpS func150 rfl λc₀ cs hu=>?_
 apply wpS_seq;apply wpS_region;simp[wpOpsS,go_sem,recoverD,hu,ntmps150,Exit.thenS];refine wpS_cond (t:=true) (by simp[Act.eval,Array.replicate]) ?_;simp only[if_true];apply wpS_region;have hne:(⟨p,0,none⟩:Addr)≠⟨q,0,none⟩:=by intro e;exact hpq (congrArg Addr.block e)
 have h2:(w.setCell ⟨p,0,none⟩ (.int .i64 0)).cell? ⟨q,0,none⟩=some (.bool b):=(cO _ _ _ _ hne).trans hc';have h3:(w.setCell ⟨p,0,none⟩ (.int .i64 0)).frozen? ⟨q,0,none⟩=false:=by rw[World.frozen?_setCell];exact hz'
 simp[wpOpsS,go_sem,hc,hz,h2,h3,bodyPostS,results,results150]
theorem Qo(p q:Nat)(w:World) :
 CallsD prog 150 #[.pointer (some ⟨p,0,none⟩),.pointer (some ⟨q,0,none⟩)] .returning w λe u' w'=>e=.returned (.tuple #[])/\u'=.returning/\w'=w:=by
 refine callsD_of_wpS func150 rfl λc₀ cs hu=>?_
 apply wpS_seq;apply wpS_region;simp[wpOpsS,go_sem,recoverD,hu,ntmps150,Exit.thenS];refine wpS_cond (t:=false) (by simp[Act.eval,Array.replicate]) ?_;simp only[Bool.false_eq_true,if_false];refine wpS_of_wp (wp_skip ?_)
 cases c₀
 simp_all[bodyPostS,results,results150]
def Cl(w:World)(p:Nat)(v:Value):Prop:=w.cell? ⟨p,0,none⟩=some v/\w.frozen? ⟨p,0,none⟩=false
def W3(s:ByteArray)(w:World):World:=((w.alloc (.cells #[.int .i64 0] 3 (0,0))).alloc (.cells #[.bool false] 4 (0,0))).alloc (.cells #[.string s] 163 (0,0))
theorem On.under(h:On p w w')(hl:lo<=p)(hw:lo<=w.heap.size):Below lo w w':=⟨h.os,h.tape,h.output,h.size,λk hk=>h.block k (by omega) (by simp;omega)⟩
theorem Bx.other(h:Bx w b x y)(hne:b≠c)(o:Nat)(u:Value):Bx (w.setCell ⟨c,o,none⟩ u) b x y :=
 ⟨(cO _ _ _ _ (by intro e;have:=congrArg Addr.block e;simp at this;omega)).trans h.c0,(cO _ _ _ _ (by intro e;have:=congrArg Addr.block e;simp at this;omega)).trans h.c1,by rw[World.frozen?_setCell];exact h.f0,by rw[World.frozen?_setCell];exact h.f1,by have:=h.lt;simpa[World.setCell]using this⟩
theorem Bx.on(h:Bx w b x y)(g:On p w w')(hne:b≠p):Bx w' b x y:=by
 have hb:=g.block b h.lt (by simp;omega);exact⟨(fZ (w:=w) (a:=⟨b,0,none⟩) hb).trans h.c0,(fZ (w:=w) (a:=⟨b,1,none⟩) hb).trans h.c1,(fB (w:=w) (a:=⟨b,0,none⟩) hb).trans h.f0,(fB (w:=w) (a:=⟨b,1,none⟩) hb).trans h.f1,nT h.lt g.size⟩
theorem aD.gL(h:aD lo w v1 v2 a){b:Nat}(hb:b<lo)(o:Nat)(u:Value):aD lo (w.setCell ⟨b,o,none⟩ u) v1 v2 a:=by
 have g1:=Ze w ⟨b,o,none⟩ u;exact⟨h.o1.kept g1 (.inr (ib h.o1 hb).symm),h.o2.kept g1 (.inr (ib h.o2 hb).symm),h.ne⟩
theorem Cl.on(h:Cl w b x)(g:On p w w')(hne:b≠p):Cl w' b x:=by
 have hb:=g.block b (cL w _ h.1) (by simp;omega);exact⟨(fZ (w:=w) (a:=⟨b,0,none⟩) hb).trans h.1,(fB (w:=w) (a:=⟨b,0,none⟩) hb).trans h.2⟩
theorem Cl.other(h:Cl w b x)(hne:b≠c)(o:Nat)(u:Value):Cl (w.setCell ⟨c,o,none⟩ u) b x :=
 ⟨(cO _ _ _ _ (by intro e;have:=congrArg Addr.block e;simp at this;omega)).trans h.1,by rw[World.frozen?_setCell];exact h.2⟩
theorem FW(s:ByteArray)(u:World):cR (W3 s u) (u.heap.size+2) s/\Cl (W3 s u) u.heap.size (.int .i64 0)/\Cl (W3 s u) (u.heap.size+1) (.bool false)/\ae u (W3 s u)/\(W3 s u).heap.size=u.heap.size+3:=by
 have e1:(u.alloc (.cells #[.int .i64 0] 3 (0,0))).heap.size=u.heap.size+1:=by simp
 have e2:((u.alloc (.cells #[.int .i64 0] 3 (0,0))).alloc (.cells #[.bool false] 4 (0,0))).heap.size=u.heap.size+2:=by simp
 have g1:=Zb (u.alloc (.cells #[.int .i64 0] 3 (0,0))) (.cells #[.bool false] 4 (0,0));have g2:=Zb ((u.alloc (.cells #[.int .i64 0] 3 (0,0))).alloc (.cells #[.bool false] 4 (0,0))) (.cells #[.string s] 163 (0,0))
 have r:cR (W3 s u) (u.heap.size+2) s:=by
  rw[<-e2];exact⟨cN _ _ _ 0,fN _ _ _ _ rfl⟩
 have k1:Cl (W3 s u) (u.heap.size+1) (.bool false):=by
  rw[<-e1];exact⟨(g2.cell (p:=⟨_,0,none⟩) (by simp)).trans (cN _ _ _ 0),(g2.frozen (p:=⟨_,0,none⟩) (by simp)).trans (fN _ _ _ _ rfl)⟩
 have k0:Cl (W3 s u) u.heap.size (.int .i64 0):=⟨(g2.cell (p:=⟨_,0,none⟩) (by simp;omega)).trans ((g1.cell (p:=⟨_,0,none⟩) (by simp)).trans (cN _ _ _ 0)),(g2.frozen (p:=⟨_,0,none⟩) (by simp;omega)).trans ((g1.frozen (p:=⟨_,0,none⟩) (by simp)).trans (fN _ _ _ _ rfl))⟩
 exact⟨r,k0,k1,ag (ag (Zb _ _) g1) g2,by unfold W3;simp⟩
theorem Qp(cap:Value)(s:ByteArray)(w:World)(X:World->Prop)
 (C:Calls prog 117 #[.pointer (some ⟨w.heap.size+2,0,none⟩),cap] (W3 s w) λe w'=>e=.panicked PN/\(∃x,Cl w' w.heap.size (.int .i64 x))/\(∃x,Cl w' (w.heap.size+1) (.bool x))/\X w') :
 Calls prog 116 #[.string s,.func (.func 117) #[] #[cap]] w λe w'=>e=.returned (.tuple #[.int .i64 0,.bool false])/\∃w0,X w0/\w'=(w0.setCell ⟨w.heap.size,0,none⟩ (.int .i64 0)).setCell ⟨w.heap.size+1,0,none⟩ (.bool false):=by
 have hmf:∀(fn:Fn) (first cap:Array Value) (w:World),(Instr.makeFunc fn first cap).run prog w=.ok (.func fn first cap) w:=λ_ _ _ _=>rfl
 unfold W3 at C;go_enter_defers func116,ntmps116
 go_wp2_with fail
 refine mo (Fl _ _) ?_;rintro w1 rfl;go_wp2_with fail
 refine mq C ?_;rintro w2 ⟨⟨x,c0,z0⟩,⟨b,c1,z1⟩,hX⟩;go_wp2_with fail
 refine leaves_cons (f:=150) (args:=#[.pointer (some ⟨w.heap.size,0,none⟩),.pointer (some ⟨w.heap.size+1,0,none⟩)]) (by simp) (by simp[go_sem]) ?_;refine(Qn _ _ _ _ _ c0 z0 c1 z1 (by omega)).mono ?_;rintro e u' w3 ⟨rfl,rfl,rfl⟩;have k0:((w2.setCell ⟨w.heap.size,0,none⟩ (.int .i64 0)).setCell ⟨w.heap.size+1,0,none⟩ (.bool false)).cell? ⟨w.heap.size,0,none⟩=some (.int .i64 0):=(cO _ _ _ _ (by intro e;have:=congrArg Addr.block e;simp at this)).trans (cS _ _ _ c0);have k1:((w2.setCell ⟨w.heap.size,0,none⟩ (.int .i64 0)).setCell ⟨w.heap.size+1,0,none⟩ (.bool false)).cell? ⟨w.heap.size+1,0,none⟩=some (.bool false):=cS _ _ _ ((cO _ _ _ _ (by intro e;have:=congrArg Addr.block e;simp at this)).trans c1)
 have hfin:∃w0,X w0/\(w2.setCell ⟨w.heap.size,0,none⟩ (.int .i64 0)).setCell ⟨w.heap.size+1,0,none⟩ (.bool false)=(w0.setCell ⟨w.heap.size,0,none⟩ (.int .i64 0)).setCell ⟨w.heap.size+1,0,none⟩ (.bool false):=⟨w2,hX,rfl⟩
 generalize (w2.setCell _ _).setCell _ _=wz at*;simp[Leaves,settle,results,results116,go_sem,k0,k1];exact hfin
theorem Qq(cap:Value)(s rest:ByteArray)(w:World)(X:World->Prop)(hs:s.size<=281474976710656)(hr:rest.size<=s.size)
 (C:Calls prog 117 #[.pointer (some ⟨w.heap.size+2,0,none⟩),cap] (W3 s w) λe w'=>e=.returned (.tuple #[])/\cR w' (w.heap.size+2) rest/\(∃x,Cl w' w.heap.size (.int .i64 x))/\(∃x,Cl w' (w.heap.size+1) (.bool x))/\X w') :
 Calls prog 116 #[.string s,.func (.func 117) #[] #[cap]] w λe w'=>e=.returned (.tuple #[.int .i64 ((s.size:Int)-(rest.size:Int)),.bool true])/\∃w0,X w0/\w'=(w0.setCell ⟨w.heap.size,0,none⟩ (.int .i64 ((s.size:Int)-(rest.size:Int)))).setCell ⟨w.heap.size+1,0,none⟩ (.bool true):=by
 have hmf:∀(fn:Fn) (first cap:Array Value) (w:World),(Instr.makeFunc fn first cap).run prog w=.ok (.func fn first cap) w:=λ_ _ _ _=>rfl
 have hw:wrap64 ((s.size:Int)-(rest.size:Int))=(s.size:Int)-(rest.size:Int):=by unfold wrap64;omega
 unfold W3 at C;go_enter_defers func116,ntmps116
 go_wp2_with fail
 refine mo (Fl _ _) ?_;rintro w1 rfl;go_wp2_with fail
 refine mo C ?_;rintro w2 ⟨R,⟨x,c0,z0⟩,⟨b,c1,z1⟩,hX⟩;have cr:=R.c;go_wp2_with fail
 refine leaves_cons (f:=150) (args:=#[.pointer (some ⟨w.heap.size,0,none⟩),.pointer (some ⟨w.heap.size+1,0,none⟩)]) (by simp) (by simp[go_sem]) ?_;refine(Qo _ _ _).mono ?_;rintro e u' w3 ⟨rfl,rfl,rfl⟩;generalize hv:(s.size:Int)-(rest.size:Int)=d at*;have k0:((w2.setCell ⟨w.heap.size,0,none⟩ (.int .i64 d)).setCell ⟨w.heap.size+1,0,none⟩ (.bool true)).cell? ⟨w.heap.size,0,none⟩=some (.int .i64 d):=(cO _ _ _ _ (by intro e;have:=congrArg Addr.block e;simp at this)).trans (cS _ _ _ c0);have k1:((w2.setCell ⟨w.heap.size,0,none⟩ (.int .i64 d)).setCell ⟨w.heap.size+1,0,none⟩ (.bool true)).cell? ⟨w.heap.size+1,0,none⟩=some (.bool true):=cS _ _ _ ((cO _ _ _ _ (by intro e;have:=congrArg Addr.block e;simp at this)).trans c1)
 have hfin:∃w0,X w0/\(w2.setCell ⟨w.heap.size,0,none⟩ (.int .i64 d)).setCell ⟨w.heap.size+1,0,none⟩ (.bool true)=(w0.setCell ⟨w.heap.size,0,none⟩ (.int .i64 d)).setCell ⟨w.heap.size+1,0,none⟩ (.bool true):=⟨w2,hX,rfl⟩
 generalize (w2.setCell _ _).setCell _ _=wz at*;simp[Leaves,settle,results,results116,go_sem,k0,k1];exact hfin
structure eC(B p:Nat)(w:World)(v:Value)(l:List UInt8)(er:Int):Prop where
 hp:B<=p
 lt:p<w.heap.size
 c0:w.cell? ⟨p,0,none⟩=some v
 c1:w.cell? ⟨p,1,none⟩=some (.int .i64 er)
 f0:w.frozen? ⟨p,0,none⟩=false
 f1:w.frozen? ⟨p,1,none⟩=false
 own:aM w B v l
 ne:v.ownBlock≠some p
theorem eC.below{B:Nat}(h:eC B p w v l er)(G:ae w w'):eC B p w' v l er :=
 ⟨h.hp,nT h.lt G.size,(G.cell (p:=⟨p,0,none⟩) h.lt).trans h.c0,(G.cell (p:=⟨p,1,none⟩) h.lt).trans h.c1,(G.frozen (p:=⟨p,0,none⟩) h.lt).trans h.f0,(G.frozen (p:=⟨p,1,none⟩) h.lt).trans h.f1,h.own.below G,h.ne⟩
theorem eC.app{B:Nat}{w1:World}(h:eC B p w v l er)(A:App w w1 B v v' l'):eC B p (w1.setCell ⟨p,0,none⟩ v') v' l' er/\Below B w (w1.setCell ⟨p,0,none⟩ v'):=by
 have hb:=A.block p h.lt (λe=>h.ne e.symm);have k0:=(fZ (w:=w) hb).trans h.c0;have k1:=(fZ (w:=w) hb).trans h.c1
 have hne:v'.ownBlock≠some p:=λe=>by
  rcases A.at_ p e with h9|h9
  ·exact h.ne h9
  ·have:=h.lt;omega
 refine⟨⟨h.hp,?_,cS _ _ _ k0,(cO _ _ _ _ (by intro e;have:=congrArg Addr.off e;simp at this)).trans k1,?_,?_,?_,hne⟩,A.below.setCell h.hp _⟩
 ·have:=A.own;have h2:=cL w1 _ k0;simpa[World.setCell]using h2
 ·rw[World.frozen?_setCell];exact(fB (w:=w) hb).trans h.f0
 ·rw[World.frozen?_setCell];exact(fB (w:=w) hb).trans h.f1
 ·exact A.own.kept (by simp[World.setCell]) (λg hg=>jB _ _ _ _ (λe=>hne (by rw[hg];exact congrArg some e)))
theorem eC.err{B:Nat}(h:eC B p w v l er)(e:Int):eC B p (w.setCell ⟨p,1,none⟩ (.int .i64 e)) v l e/\Below B w (w.setCell ⟨p,1,none⟩ (.int .i64 e)):=by
 refine⟨⟨h.hp,?_,(cO _ _ _ _ (by intro e;have:=congrArg Addr.off e;simp at this)).trans h.c0,cS _ _ _ h.c1,?_,?_,?_,h.ne⟩,(bR _ _).setCell h.hp _⟩
 ·have:=h.lt;simpa[World.setCell]using this
 ·rw[World.frozen?_setCell];exact h.f0
 ·rw[World.frozen?_setCell];exact h.f1
 ·exact h.own.kept (by simp[World.setCell]) (λg hg=>jB _ _ _ _ (λe=>h.ne (by rw[hg];exact congrArg some e)))
theorem aM.slice{B:Nat}(h:aM w B v l):∃x n c,v=.slice x n c:=by
 rcases h with⟨rfl,_⟩|⟨g,cap,rfl,_⟩
 ·exact⟨_,_,_,rfl⟩
 ·exact⟨_,_,_,rfl⟩
theorem aM.str{B:Nat}(h:aM w B v l):(convert 29 9 v).run prog w=.ok (.string ⟨l.toArray⟩) w:=by
 rcases h with⟨rfl,rfl⟩|⟨g,cap,rfl,_,_,_,_,h5,_⟩
 ·exact Lib.run_convert_nil_bytes w 29 9 5 0 gE U5 U9
 ·have:=aM.conv h5 0 cap;simpa using this
structure WF(p:Nat)(w w':World)(v v':Value):Prop where
 blk:∀k,k<w.heap.size->k≠p->v.ownBlock≠some k->w'.heap[k]?=w.heap[k]?
 at_:∀g,v'.ownBlock=some g->v.ownBlock=some g\/w.heap.size<=g
 sz:w.heap.size<=w'.heap.size
theorem WF.trans{a b c:World}{v3:Value}(h:WF p a b v1 v2)(g:WF p b c v2 v3):WF p a c v1 v3:=by
 refine⟨λk hk hp hv=>(g.blk k (nT hk h.sz) hp (λe=>?_)).trans (h.blk k hk hp hv),λx hx=>?_,nt h.sz g.sz⟩
 ·rcases h.at_ k e with h9|h9
  ·exact hv h9
  ·omega
 ·rcases g.at_ x hx with h9|h9
  ·exact h.at_ x h9
  ·exact .inr (nt h.sz h9)
theorem WF.of(G:ae w w'):WF p w w' v v:=⟨λk hk _ _=>G.block k hk,λ_ h=>.inl h,G.size⟩
theorem WF.app{B:Nat}{w1:World}(A:App w w1 B v v' l')(hz:w.heap.size<=w1.heap.size):WF p w (w1.setCell ⟨p,0,none⟩ v') v v' :=
 ⟨λk hk hp hv=>(jB _ _ _ _ hp).trans (A.block k hk (λe=>hv e.symm)),A.at_,by simpa[World.setCell]using hz⟩
theorem WF.err(u:Value):WF p w (w.setCell ⟨p,1,none⟩ u) v v:=⟨λk _ hp _=>Below.heap_setCell _ _ _ _ hp,λ_ h=>.inl h,by simp[World.setCell]⟩
def kX(B p:Nat)(w:World)(v:Value)(l:List UInt8)(er:Int)(e:Ending)(w':World):Prop:=e=.returned (.tuple #[])/\Below B w w'/\∃v',eC B p w' v' l er/\WF p w w' v v'
theorem vG(B p:Nat)(w:World)(v:Value)(l:List UInt8)(er:Int)(s:ByteArray)(h:eC B p w v l er)(hl:l.length+s.size<=140737488355328) :
 Calls prog 20 #[.pointer (some ⟨p,0,none⟩),.string s] w λe w'=>kX B p w v (l++s.data.toList) er e w':=by
 have c0:=h.c0;have hO:=h.own;have hB:=nL (Nat.lt_of_le_of_lt h.hp h.lt);have hA:=Za λv' w1 (A:App w w1 B v v' (l++s.data.toList))=>h.app A
 have hC:Hid (∀v' w1,App w w1 B v v' (l++s.data.toList)->w1.cell? ⟨p,0,none⟩=some v/\w1.frozen? ⟨p,0,none⟩=false):=λv' w1 A=>⟨(fZ (w:=w) (A.block p h.lt (λe=>h.ne e.symm))).trans h.c0,(fB (w:=w) (A.block p h.lt (λe=>h.ne e.symm))).trans h.f0⟩
 clear h;go_enter func20,ntmps20
 go_wp2_with (at_builtin;refine da _ rfl _ _ rfl B v l rfl hO s rfl hl hB ?_;intro v' w1 A;obtain⟨k0,kf⟩:=hC.out _ _ A;have A2:=hA.out _ _ A;obtain⟨x,n,c,hv⟩:=A.own.slice;subst hv)
 go_end0
 exact⟨rfl,A2.2,_,A2.1,WF.app A A.below.size⟩
theorem Qr(B p:Nat)(w:World)(v:Value)(l:List UInt8)(er:Int)(h:eC B p w v l er) :
 CB 11 #[.pointer (some ⟨p,0,none⟩)] w (.string ⟨l.toArray⟩):=by
 have c0:=h.c0;have hO:=h.own.str;clear h;go_enter func11,ntmps11
 go_wp2_with fail
 go_ret
 exact⟨rfl,bR _ _⟩
theorem FX(B p:Nat)(w:World)(v:Value)(l:List UInt8)(er:Int)(s:ByteArray)(E:Int)(h:eC B p w v l er)(hl:l.length+s.size<=140737488355328) :
 Calls prog 195 #[.pointer (some ⟨p,0,none⟩),.string s,.int .i64 E] w λe w'=>kX B p w v (l++s.data.toList) (if er=0 then E else er) e w':=by
 have c1:=h.c1;have f1:=h.f1;have hB:=nL (Nat.lt_of_le_of_lt h.hp h.lt);by_cases he:er=0
 ·subst he;rw[ax rfl];obtain⟨h2,G⟩:=h.err E;have C:=vG B p _ v l E s h2 hl;have hQ:=Za λw' (h9:Below B (w.setCell ⟨p,1,none⟩ (.int .i64 E)) w')=>G.trans h9
  clear h h2 G;go_enter func195,ntmps195
  go_wp2_with fail
  refine mo C ?_;rintro w1 ⟨G,v',h',F'⟩;go_wp2_with fail
  go_end0
  exact⟨rfl,hQ.out _ G,_,h',(WF.err _).trans F'⟩
 ·rw[ab he];have C:=vG B p _ v l er s h hl;have d1:(er==0)=false:=by simpa using he
  clear h;go_enter func195,ntmps195
  go_wp2_with fail
  refine mo C ?_;rintro w1 ⟨G,v',h',F'⟩;go_wp2_with fail
  go_end0
  exact⟨rfl,G,_,h',F'⟩
namespace Im
def WQ(n:Int):List UInt8:=if 0<=n/\n<=2147483647 then VB n.toNat else []
def Xs(n:Int):Int:=if 0<=n/\n<=2147483647 then 0 else 3
def Xy(s:ByteArray):List UInt8:=if s.size<=512 then tb s else []
def XL(s:ByteArray):Int:=if s.size<=512 then 0 else 2
def Xr(er E:Int):Int:=if er=0 then E else er
end Im
theorem qu(B p:Nat)(w:World)(v:Value)(l:List UInt8)(er n:Int)(h:eC B p w v l er)(hl:l.length+5<=140737488355328) :
 Calls prog 147 #[.pointer (some ⟨p,0,none⟩),.int .i64 n] w λe w'=>kX B p w v (l++WQ n) (Xr er (Xs n)) e w':=by
 have hB:=nL (Nat.lt_of_le_of_lt h.hp h.lt)
 have C1:CB 182 #[.int .i64 n] w (.tuple #[.string ⟨(WQ n).toArray⟩,.int .i64 (Xs n)]):=by
  unfold WQ Xs;by_cases hn:0<=n/\n<=2147483647
  ·rw[ax hn,ax hn];exact uq n w hn.1 hn.2
  ·rw[ab hn,ab hn];exact IZ n w (by omega)
 have hz:(WQ n).length<=5:=by
  unfold WQ;by_cases hn:0<=n/\n<=2147483647
  ·rw[ax hn];exact V3 _ (by omega)
  ·rw[ab hn];simp
 have C2:Hid (∀w',ae w w'->Calls prog 195 #[.pointer (some ⟨p,0,none⟩),.string ⟨(WQ n).toArray⟩,.int .i64 (Xs n)] w' λe w2=>kX B p w' v (l++WQ n) (Xr er (Xs n)) e w2):=λw' h9=>by
  have:=FX B p w' v l er ⟨(WQ n).toArray⟩ (Xs n) (h.below h9) (by show l.length+(WQ n).toArray.size<=_;simp;omega);simpa[Xr]using this
 generalize WQ n=L at*;generalize Xr er (Xs n)=R at*;generalize Xs n=E at*;clear h;go_enter func147,ntmps147
 go_wp2_with fail
 refine mo C1 λw1 G=>?_
 go_wp2_with fail
 refine mo (C2.out _ G) ?_;rintro w2 ⟨G2,v',h',F'⟩;have G3:=(G.mono hB).trans G2;have F3:=(WF.of (p:=p) (v:=v) G).trans F';go_wp2_with fail
 go_end0
 exact⟨rfl,G3,_,h',F3⟩
theorem FY(B p:Nat)(w:World)(v:Value)(l:List UInt8)(er:Int)(s:ByteArray)(h:eC B p w v l er)(hl:l.length+520<=140737488355328)(hs:s.size<=281474976710656) :
 Calls prog 148 #[.pointer (some ⟨p,0,none⟩),.string s] w λe w'=>kX B p w v (l++Xy s) (Xr er (XL s)) e w':=by
 have hB:=nL (Nat.lt_of_le_of_lt h.hp h.lt)
 have C1:CB 196 #[.string s] w (.tuple #[.string ⟨(Xy s).toArray⟩,.int .i64 (XL s)]):=by
  unfold Xy XL;by_cases hn:s.size<=512
  ·rw[ax hn,ax hn]
   have e1:(⟨(Im.tb s).toArray⟩:ByteArray)=⟨(VB s.size).toArray⟩++s:=by
    apply ZN;simp[Im.tb]
   rw[e1];exact I1 s w hn
  ·rw[ab hn,ab hn];exact I0 s w hs (by omega)
 have hz:(Xy s).length<=520:=by
  unfold Xy;by_cases hn:s.size<=512
  ·rw[ax hn];have:=V3 s.size (by omega);have h2:=Zf s;unfold Im.tb;rw[List.length_append];omega
  ·rw[ab hn];simp
 have C2:Hid (∀w',ae w w'->Calls prog 195 #[.pointer (some ⟨p,0,none⟩),.string ⟨(Xy s).toArray⟩,.int .i64 (XL s)] w' λe w2=>kX B p w' v (l++Xy s) (Xr er (XL s)) e w2):=λw' h9=>by
  have:=FX B p w' v l er ⟨(Xy s).toArray⟩ (XL s) (h.below h9) (by show l.length+(Xy s).toArray.size<=_;simp;omega);simpa[Xr]using this
 generalize Xy s=L at*;generalize Xr er (XL s)=R at*;generalize XL s=E at*;clear h;go_enter func148,ntmps148
 go_wp2_with fail
 refine mo C1 λw1 G=>?_
 go_wp2_with fail
 refine mo (C2.out _ G) ?_;rintro w2 ⟨G2,v',h',F'⟩;have G3:=(G.mono hB).trans G2;have F3:=(WF.of (p:=p) (v:=v) G).trans F';go_wp2_with fail
 go_end0
 exact⟨rfl,G3,_,h',F3⟩
theorem Qs(B p:Nat)(w:World)(v:Value)(l:List UInt8)(er:Int)(s:ByteArray)(h:eC B p w v l er)(hl:l.length+5+s.size<=140737488355328) :
 Calls prog 149 #[.pointer (some ⟨p,0,none⟩),.string s] w λe w'=>kX B p w v (l++WQ (s.size:Int)++s.data.toList) (Xr er (Xs (s.size:Int))) e w':=by
 have hz:(WQ (s.size:Int)).length<=5:=by
  unfold WQ;by_cases hn:0<=(s.size:Int)/\(s.size:Int)<=2147483647
  ·rw[ax hn];exact V3 _ (by omega)
  ·rw[ab hn];simp
 have C1:=qu B p w v l er (s.size:Int) h (by omega);have C2:=Za λw' v' (h9:eC B p w' v' (l++WQ (s.size:Int)) (Xr er (Xs (s.size:Int))))=>vG B p w' v' _ _ s h9 (by rw[List.length_append];omega)
 generalize Xr er (Xs (s.size:Int))=R at*;generalize l++WQ (s.size:Int)++s.data.toList=L2 at*;generalize l++WQ (s.size:Int)=L1 at*;clear h hz;go_enter func149,ntmps149
 go_wp2_with fail
 refine mo C1 ?_;rintro w1 ⟨G,v1,h1,F1⟩;go_wp2_with fail
 refine mo (C2.out _ _ h1) ?_;rintro w2 ⟨G2,v',h',F'⟩;have G3:=G.trans G2;have F3:=F1.trans F';go_wp2_with fail
 go_end0
 exact⟨rfl,G3,_,h',F3⟩
theorem ti(w:World):∀k,ae w (w.drewN k)
 |0=>bR _ _
 |k+1=>by rw[show w.drewN (k+1)=(w.drewN k).drew from rfl];exact(ti w k).drew
theorem FZ(B p:Nat)(w:World)(v:Value)(l:List UInt8)(er:Int)(h:eC B p w v l er) :
 CB 115 #[.pointer (some ⟨p,0,none⟩)] w (.tuple #[.string (if er=0 then⟨l.toArray⟩ else⟨#[]⟩),.int .i64 er]):=by
 have c1:=h.c1;by_cases he:er=0
 ·subst he;rw[ax rfl];have C:=Qr B p w v l 0 h;clear h;go_enter func115,ntmps115
  go_wp2_with fail
  refine mo C λw1 G=>?_
  go_wp2_with fail
  go_ret2
  exact⟨rfl,G⟩
 ·rw[ab he];have d1:(er==0)=false:=by simpa using he
  clear h;go_enter func115,ntmps115
  go_wp2_with fail
  go_quiet (fail)
  go_wp2_with fail
  go_ret2
  exact⟨rfl,ti _ _⟩
open Dk (ba w1 w2 w3)
theorem Qt(w:World)(e:TypeId)(s:ByteArray):ae w (Lib.bytesWorld w e s):=⟨rfl,rfl,rfl,by rw[Lib.bytesWorld_size];omega,λk hk=>Lib.bytesWorld_at_old w e s k hk⟩
theorem Ga(r:List UInt8)(c:UInt8)(w:World)(hr:r.length<=100000)(hM:Mx w) :
 CB 9 #[.string (ba r),.string ⟨#[c]⟩] w (.tuple #[.string (ba (Wr c r).1),.string (ba (Wr c r).2.1),.bool (Wr c r).2.2]):=by
 obtain⟨m,hm⟩:=hM;refine mo (Tryz.strings_Cut (ba r) ⟨#[c]⟩ m w (by rw[VF];omega) hm) ?_;rintro w' ⟨n,rfl⟩;rw[VL,show(⟨#[c]⟩:ByteArray).data.toList=[c]from rfl,jh];exact⟨rfl,ti w n⟩
theorem vH(w:World):Calls prog 91 #[.bool true] w λe w'=>e=.returned (.tuple #[])/\w'=w:=by
 go_enter func91,ntmps91
 go_wp2_with fail
 go_end0
 exact⟨rfl,rfl⟩
theorem vI(w:World):Calls prog 91 #[.bool false] w λe w'=>e=.panicked PN/\w'=w:=by
 unfold PN;go_enter func91,ntmps91
 go_wp2_with fail
 exact⟨rfl,rfl,rfl⟩
theorem Bx.one(h:Bx w b x y)(v:Value):Bx (w.setCell ⟨b,1,none⟩ v) b x v:=by
 refine⟨(cO _ _ _ _ (by intro e;have:=congrArg Addr.off e;simp at this)).trans h.c0,cS _ _ _ h.c1,?_,?_,?_⟩
 ·rw[World.frozen?_setCell];exact h.f0
 ·rw[World.frozen?_setCell];exact h.f1
 ·have:=h.lt;simpa[World.setCell]using this
theorem On.put(h:On p w w')(o:Nat)(v:Value):On p w (w'.setCell ⟨p,o,none⟩ v):=h.trans (Ze w' ⟨p,o,none⟩ v)
def tj(v:Value)(t:List UInt8)(m:Bool)(p:Nat)(w:World)(e:Ending)(w':World):Prop:=e=.returned v/\On p w w'/\Bx w' p (.string (ba t)) (.bool m)
theorem kY(r:List UInt8)(p:Nat)(w:World)(h:Bx w p (.string (ba r)) (.bool true))(hr:r.length<=100000)(hM:Mx w) :
 Calls prog 57 #[.pointer (some ⟨p,0,none⟩)] w λe w'=>tj (.string (ba (w1 r))) (w2 r) (w3 r) p w e w':=by
 have C:=Ga r 32 w hr hM;have c0:=h.c0;have c1:=h.c1;have HX:=Za λw' (h9:ae w w')=>h.next h9
 unfold w1 w2 w3 tj;clear h hM;generalize ba (Wr 32 r).1=x at*;generalize ba (Wr 32 r).2.1=y at*;generalize (Wr 32 r).2.2=z at*;generalize ba r=s at*;go_enter func57,ntmps57
 go_wp2_with fail
 refine mo (vH _) ?_;rintro w2 rfl;go_wp2_with fail
 refine mo C λw1 G=>?_
 have X:=HX.out _ G;have k0:=X.c0;have k1:=X.c1;have z0:=X.f0;have z1:=X.f1;go_wp2_with fail
 go_ret
 exact⟨rfl,((On.of G).put 0 _).put 1 _,X.set⟩
theorem vJ(x:Value)(p:Nat)(w:World)(h:Bx w p x (.bool false)) :
 Calls prog 57 #[.pointer (some ⟨p,0,none⟩)] w λe w'=>e=.panicked PN/\On p w w':=by
 have c1:=h.c1;have O:=On.refl p w;go_enter func57,ntmps57
 go_wp2_with fail
 refine mq (vI _) ?_;rintro w2 rfl;go_wp2_with fail
 exact⟨rfl,rfl,O⟩
theorem Qu(s:ByteArray)(p:Nat)(w:World)(h:Bx w p (.string s) (.bool true)) :
 Calls prog 59 #[.pointer (some ⟨p,0,none⟩)] w λe w'=>e=.returned (.string s)/\On p w w'/\Bx w' p (.string s) (.bool false):=by
 have c0:=h.c0;have c1:=h.c1;have z1:=h.f1;have X:=h.one (.bool false);have k0:=X.c0;have O:=(On.refl p w).put 1 (.bool false);go_enter func59,ntmps59
 go_wp2_with fail
 refine mo (vH _) ?_;rintro w2 rfl;go_wp2_with fail
 go_ret
 exact⟨rfl,O,X⟩
theorem Qv(x:Value)(p:Nat)(w:World)(h:Bx w p x (.bool false)) :
 Calls prog 59 #[.pointer (some ⟨p,0,none⟩)] w λe w'=>e=.panicked PN/\On p w w':=by
 have c1:=h.c1;have O:=On.refl p w;go_enter func59,ntmps59
 go_wp2_with fail
 refine mq (vI _) ?_;rintro w2 rfl;go_wp2_with fail
 exact⟨rfl,rfl,O⟩
theorem tp(x:Value)(p:Nat)(w:World)(h:Bx w p x (.bool false)) :
 Calls prog 60 #[.pointer (some ⟨p,0,none⟩)] w λe w'=>e=.returned (.tuple #[])/\w'=w:=by
 have c1:=h.c1;go_enter func60,ntmps60
 go_wp2_with fail
 refine mo (vH _) ?_;rintro w2 rfl;go_wp2_with fail
 go_end0
 exact⟨rfl,rfl⟩
theorem vK(x:Value)(p:Nat)(w:World)(h:Bx w p x (.bool true)) :
 Calls prog 60 #[.pointer (some ⟨p,0,none⟩)] w λe w'=>e=.panicked PN/\On p w w':=by
 have c1:=h.c1;have O:=On.refl p w;go_enter func60,ntmps60
 go_wp2_with fail
 refine mq (vI _) ?_;rintro w2 rfl;go_wp2_with fail
 exact⟨rfl,rfl,O⟩
theorem Qw(s:ByteArray)(w:World)(h0:1<=s.size)(h1:s.size<=6)(hz:s.size=1\/Cd.at8 s 0≠48) :
 Calls prog 92 #[.string s] w λe w'=>e=.returned (.bool (decide (Ws s.data.toList)))/\w'=w:=by
 have hne:=lL h0;have hne2:(s.toList == [])=false:=by rw[<-hne];cases s.toList<;>rfl
 have h1':(s.size:Int)<=6:=by omega
 have h0':(1:Int)<=(s.size:Int):=by omega
 have d6:decide ((6:Int)<(s.size:Int))=false:=dF (by omega);have HT:=Za λ(h:kS s s.size)=>al (Dk.oR h0 h1 hz h)
 have HF:=Za λk (hk:k<s.size) (h:¬(48<=Cd.at8 s k/\Cd.at8 s k<=57))=>dF (iq hk h)
 generalize decide (Ws s.data.toList)=r at*;have H0:=kR s 0 h0
 obtain⟨y,hc⟩:∃y,(s[0]).toNat=y:=⟨_,rfl⟩
 rw[hc]at H0;rw[H0]at hz;clear H0;by_cases h2:1<s.size
 ·have e1:decide ((1:Int)<(s.size:Int))=true:=al (by omega);have e1':=al h2;have e2:((y:Int)==48)=false:=by simpa using(show ¬((y:Int)=48) by omega)
  have e3:(y==48)=false:=by simpa using(show ¬(y=48) by omega)
  go_enter func92,ntmps92
  go_wp2_with fail
  clear hc e1 e1' e2 e3;go_loopw [23] (λi wr=>∃k:Nat,k<=s.size/\i=.int .i64 k/\Hid (kS s k)/\wr=w) (λi _=>s.size-(intOf i).toNat)
  case atStart=>exact⟨0,by omega,rfl,λi hi=>absurd hi (by omega),rfl⟩
  case round =>
   obtain⟨k,hk2,rfl,HL,rfl⟩:=hrel;by_cases hlt:k<s.size
   ·have d1:=al (by omega:(k:Int)<(s.size:Int));have d1':=al (by omega:k<s.size);have hki:(k:Int)<(s.size:Int):=by omega
    have dG:=kR s k hlt
    obtain⟨y,hc⟩:∃y,s[k].toNat=y:=⟨_,rfl⟩
    rw[hc]at dG;have HY:=Za dG;clear dG;have vk:y<256:=by rw[<-hc];exact s[k].toNat_lt
    by_cases k1:y<48
    ·have f0:decide ((y:Int)<48)=true:=al (by omega);have g0:(y:Int)<48:=by omega
     have hr:=HF.out k hlt (by rw[HY.out];omega);clear HT HF HY;go_wp2_with fail
     go_ret
     exact⟨by first|rfl|(rw[hr];rfl),rfl⟩
    ·have f0:decide ((y:Int)<48)=false:=dF (by omega);have g0:¬((y:Int)<48):=by omega
     by_cases k2:57<y
     ·have f1:decide ((57:Int)<(y:Int))=true:=al (by omega);have g1:(57:Int)<(y:Int):=by omega
      have hr:=HF.out k hlt (by rw[HY.out];omega);clear HT HF HY;go_wp2_with fail
      go_ret
      exact⟨by first|rfl|(rw[hr];rfl),rfl⟩
     ·have f1:decide ((57:Int)<(y:Int))=false:=dF (by omega);have g1:¬((57:Int)<(y:Int)):=by omega
      have HN:=Za (fF HL.out (by rw[HY.out];omega));clear HT HF HY;go_wp2_with fail
      go_roundw
      case rel=>exact⟨k+1,by omega,by go_num,HN,by trivial⟩
      case measure=>simp[intOf];omega
   ·obtain rfl:k=s.size:=by omega
    have d1:decide ((s.size:Int)<(s.size:Int))=false:=by simp
    have hr:=HT.out HL.out;clear HT HF;go_wp2_with fail
    go_ret
    exact⟨by first|rfl|(rw[hr];rfl),rfl⟩
 ·obtain hs1:s.size=1:=by omega
  have e1:decide ((1:Int)<(s.size:Int))=false:=dF (by omega);have e1':=dF h2;clear hs1;go_enter func92,ntmps92
  go_wp2_with fail
  clear hc e1 e1';go_loopw [23] (λi wr=>∃k:Nat,k<=s.size/\i=.int .i64 k/\Hid (kS s k)/\wr=w) (λi _=>s.size-(intOf i).toNat)
  case atStart=>exact⟨0,by omega,rfl,λi hi=>absurd hi (by omega),rfl⟩
  case round =>
   obtain⟨k,hk2,rfl,HL,rfl⟩:=hrel;by_cases hlt:k<s.size
   ·have d1:=al (by omega:(k:Int)<(s.size:Int));have d1':=al (by omega:k<s.size);have hki:(k:Int)<(s.size:Int):=by omega
    have dG:=kR s k hlt
    obtain⟨y,hc⟩:∃y,s[k].toNat=y:=⟨_,rfl⟩
    rw[hc]at dG;have HY:=Za dG;clear dG;have vk:y<256:=by rw[<-hc];exact s[k].toNat_lt
    by_cases k1:y<48
    ·have f0:decide ((y:Int)<48)=true:=al (by omega);have g0:(y:Int)<48:=by omega
     have hr:=HF.out k hlt (by rw[HY.out];omega);clear HT HF HY;go_wp2_with fail
     go_ret
     exact⟨by first|rfl|(rw[hr];rfl),rfl⟩
    ·have f0:decide ((y:Int)<48)=false:=dF (by omega);have g0:¬((y:Int)<48):=by omega
     by_cases k2:57<y
     ·have f1:decide ((57:Int)<(y:Int))=true:=al (by omega);have g1:(57:Int)<(y:Int):=by omega
      have hr:=HF.out k hlt (by rw[HY.out];omega);clear HT HF HY;go_wp2_with fail
      go_ret
      exact⟨by first|rfl|(rw[hr];rfl),rfl⟩
     ·have f1:decide ((57:Int)<(y:Int))=false:=dF (by omega);have g1:¬((57:Int)<(y:Int)):=by omega
      have HN:=Za (fF HL.out (by rw[HY.out];omega));clear HT HF HY;go_wp2_with fail
      go_roundw
      case rel=>exact⟨k+1,by omega,by go_num,HN,by trivial⟩
      case measure=>simp[intOf];omega
   ·obtain rfl:k=s.size:=by omega
    have d1:decide ((s.size:Int)<(s.size:Int))=false:=by simp
    have hr:=HT.out HL.out;clear HT HF;go_wp2_with fail
    go_ret
    exact⟨by first|rfl|(rw[hr];rfl),rfl⟩
theorem Gb(s:ByteArray)(w:World)(hs:s.size<=281474976710656) :
 Calls prog 92 #[.string s] w λe w'=>e=.returned (.bool (decide (Ws s.data.toList)))/\w'=w:=by
 by_cases h0:1<=s.size
 ·by_cases h6:s.size<=6
  ·by_cases hz:s.size=1\/Cd.at8 s 0≠48
   ·exact Qw s w h0 h6 hz
   ·have h2:1<s.size:=by omega
    have hN:=dF (kT (s:=s) h2 (by omega));rw[hN];have H0:=kR s 0 h0
    obtain⟨y,hc⟩:∃y,(s[0]).toNat=y:=⟨_,rfl⟩
    rw[hc]at H0;obtain rfl:y=48:=by omega
    have hne:=lL h0;have hne2:(s.toList == [])=false:=by rw[<-hne];cases s.toList<;>rfl
    have h0':(1:Int)<=(s.size:Int):=by omega
    have d6:decide ((6:Int)<(s.size:Int))=false:=dF (by omega);have e1:decide ((1:Int)<(s.size:Int))=true:=al (by omega);have e1':=al h2;clear hN hz H0;go_enter func92,ntmps92
    go_wp2_with fail
    go_ret
    exact⟨rfl,rfl⟩
  ·rw[decide_eq_false (λh=>h6 (fG h).2)];have hne:=lL h0;have hne2:(s.toList == [])=false:=by rw[<-hne];cases s.toList<;>rfl
   have d6:decide ((6:Int)<(s.size:Int))=true:=al (by omega);go_enter func92,ntmps92
   go_wp2_with fail
   go_ret
   exact⟨rfl,rfl⟩
 ·rw[decide_eq_false (λh=>h0 (fG h).1)];obtain rfl:=zg (b:=s) (by omega);go_enter func92,ntmps92
  go_wp2_with fail
  go_ret
  exact⟨rfl,rfl⟩
theorem vL(r:List UInt8)(p:Nat)(w:World)(h:Bx w p (.string (ba r)) (.bool true))(hr:r.length<=100000)(hM:Mx w)(hn:Ws (w1 r)) :
 Calls prog 58 #[.pointer (some ⟨p,0,none⟩)] w λe w'=>tj (.int .i64 (Dk.val (w1 r):Nat)) (w2 r) (w3 r) p w e w':=by
 have C1:=kY r p w h hr hM;have hl:=VL (w1 r);have hz:(ba (w1 r)).size<=6:=by rw[VF];exact hn.2.1
 have C2:=λw'=>Gb (ba (w1 r)) w' (by omega)
 rw[hl,decide_eq_true hn]at C2;have C3:=λw'=>Tryz.strconv_Atoi (ba (w1 r)) (Dk.val (w1 r):Nat) (by omega) (by rw[hl];exact Dk.kv hn) w'
 unfold tj at*;clear hn hl hz h hM;generalize ba (w1 r)=x at*;generalize Dk.val (w1 r)=n at*;generalize w2 r=y at*;generalize w3 r=z at*;go_enter func58,ntmps58
 go_wp2_with fail
 refine mo C1 ?_;rintro w1 ⟨O,X⟩;go_wp2_with fail
 refine mo (C2 _) ?_;rintro w2 rfl;go_wp2_with fail
 refine mo (vH _) ?_;rintro w3 rfl;go_wp2_with fail
 refine mo (C3 _) ?_;rintro w4 ⟨t,rfl⟩;have G:=Qt w3 5 t;go_wp2_with fail
 go_ret
 exact⟨rfl,O.trans (On.of G),X.next G⟩
theorem vM(r:List UInt8)(p:Nat)(w:World)(h:Bx w p (.string (ba r)) (.bool true))(hr:r.length<=100000)(hM:Mx w)(hn:¬Ws (w1 r)) :
 Calls prog 58 #[.pointer (some ⟨p,0,none⟩)] w λe w'=>e=.panicked PN/\On p w w':=by
 have C1:=kY r p w h hr hM;have hl:=VL (w1 r);have C2:=λw'=>Gb (ba (w1 r)) w' (by rw[VF];have:=(aA r).1;omega)
 rw[hl,decide_eq_false hn]at C2;unfold tj at*;clear hn hl h hM;generalize ba (w1 r)=x at*;generalize w2 r=y at*;generalize w3 r=z at*;go_enter func58,ntmps58
 go_wp2_with fail
 refine mo C1 ?_;rintro w1 ⟨O,X⟩;go_wp2_with fail
 refine mo (C2 _) ?_;rintro w2 rfl;go_wp2_with fail
 refine mq (vI _) ?_;rintro w3 rfl;go_wp2_with fail
 exact⟨rfl,rfl,O⟩
theorem vN(x:Value)(p:Nat)(w:World)(h:Bx w p x (.bool false)) :
 Calls prog 58 #[.pointer (some ⟨p,0,none⟩)] w λe w'=>e=.panicked PN/\On p w w':=by
 have C1:=vJ x p w h;clear h;go_enter func58,ntmps58
 go_wp2_with fail
 refine mq C1 λw1 O=>?_
 go_wp2_with fail
 exact⟨rfl,rfl,O⟩
open Dk (ba)
structure Gl(w:World):Prop where
 mx:Mx w
 tab : Lib.TabIs prog w "internal/strconv.uint64pow10" .u64 Lib.pow10Tab
theorem Gl.under{B:Nat}(h:Gl w)(G:Below B w w')(h0:0<B/\1<B):Gl w':=by
 refine⟨?_,?_⟩
 ·obtain⟨m,hm⟩:=h.mx;exact⟨m,(G.cell (p:=⟨0,0,none⟩) h0.1).trans hm⟩
 ·have ht:=h.tab;have hg : prog.globalNamed "internal/strconv.uint64pow10" = some 1 := by kernel_rfl
  unfold Lib.TabIs World.var? at ht |-
  rw[hg]at ht |-
  simp only[Option.bind_some]at ht |-
  rw[G.block _ h0.2];exact ht
theorem Gl.lt(h:Gl w):0<w.heap.size/\1<w.heap.size:=by
 refine⟨?_,?_⟩
 ·obtain⟨m,hm⟩:=h.mx;exact cL w _ hm
 ·have ht:=h.tab;have hg : prog.globalNamed "internal/strconv.uint64pow10" = some 1 := by kernel_rfl
  unfold Lib.TabIs World.var? at ht;rw[hg]at ht;simp only[Option.bind_some]at ht;rcases Nat.lt_or_ge 1 w.heap.size with h9|h9
  ·exact h9
  ·rw[Array.getElem?_eq_none h9]at ht;cases ht
theorem Gl.below(h:Gl w)(G:ae w w'):Gl w':=h.under G h.lt
theorem Qx(w:World)(os:Array Obj):ae w (Sort.grow w os):=⟨rfl,rfl,rfl,by simp[Sort.grow],λj hj=>by simp only[Sort.grow,Array.getElem?_append,ax hj]⟩
theorem vO(n:Nat)(w:World)(h:n<10000000000000000)(hT:Gl w) :
 CB 19 #[.int .i64 n] w (.string (ba (VJ n))):=by
 refine mo (Tryz.strconv_Itoa n (by omega) (by omega) w hT.tab) ?_;rintro w' ⟨k,os,rfl⟩;rw[ku];exact⟨rfl,ag (ti w k) (Qx _ os)⟩
theorem Qy(n:Int)(w:World)(h0:0<=n)(h:n<10000000000000000)(hT:Gl w) :
 CB 19 #[.int .i64 n] w (.string (ba (VJ n.toNat))):=by
 obtain⟨k,rfl⟩:∃k:Nat,n=k:=⟨n.toNat,by omega⟩
 rw[Int.toNat_natCast];exact vO k w (by omega) hT
structure Ck(B p:Nat)(w:World)(v:Value)(l:List UInt8)(x y:Value)(a:Ar.A):Prop where
 hp:B<=p
 gB:0<B/\1<B
 lt:p<w.heap.size
 c0:w.cell? ⟨p,0,none⟩=some v
 c1:w.cell? ⟨p,1,none⟩=some x
 c2:w.cell? ⟨p,2,none⟩=some y
 f:∀i,i<3->w.frozen? ⟨p,i,none⟩=false
 own:aM w B v l
 ar:aD B w x y a
 nv:v.ownBlock≠some p
 na:x.ownBlock≠some p/\y.ownBlock≠some p
 vx:∀j,v.ownBlock=some j->x.ownBlock≠some j/\y.ownBlock≠some j
theorem Ck.next{B:Nat}(h:Ck B p w v l x y a)(G:ae w w'):Ck B p w' v l x y a :=
 ⟨h.hp,h.gB,nT h.lt G.size,(G.cell (p:=⟨p,0,none⟩) h.lt).trans h.c0,(G.cell (p:=⟨p,1,none⟩) h.lt).trans h.c1,(G.cell (p:=⟨p,2,none⟩) h.lt).trans h.c2,λi hi=>(G.frozen (p:=⟨p,i,none⟩) h.lt).trans (h.f i hi),h.own.below G,h.ar.next G,h.nv,h.na,h.vx⟩
theorem Ck.ge{B:Nat}(h:Ck B p w v l x y a):B<=w.heap.size:=Nat.le_of_lt (Nat.lt_of_le_of_lt h.hp h.lt)
theorem Ck.app{B:Nat}{w1:World}(h:Ck B p w v l x y a)(A:App w w1 B v v' l'):Ck B p (w1.setCell ⟨p,0,none⟩ v') v' l' x y a/\Below B w (w1.setCell ⟨p,0,none⟩ v'):=by
 have hb:=A.block p h.lt (λe=>h.nv e.symm);have k0:w1.cell? ⟨p,0,none⟩=some v:=(fZ (w:=w) hb).trans h.c0
 have hne:v'.ownBlock≠some p:=λe=>by
  rcases A.at_ p e with h9|h9
  ·exact h.nv h9
  ·have:=h.lt;omega
 have g1:w.grownBy w1 v.ownBlock:=⟨A.below.os,A.below.tape,A.below.output,A.below.size,λk hk h9=>A.block k hk (by simpa using h9)⟩
 have g2:=Ze w1 ⟨p,0,none⟩ v'
 have hx:∀u:Value,(∀j,v.ownBlock=some j->u.ownBlock≠some j)->u.ownBlock=none\/u.ownBlock≠v.ownBlock:=λu h9=>by
  cases hu:u.ownBlock with
  |none=>exact .inl rfl
  |some j=>exact .inr λe=>h9 j e.symm hu
 refine⟨⟨h.hp,h.gB,?_,cS _ _ _ k0,?_,?_,λi hi=>?_,?_,?_,hne,h.na,λj hj=>?_⟩,A.below.setCell h.hp _⟩
 ·have h2:=cL w1 _ k0;simpa[World.setCell]using h2
 ·exact(cO _ _ _ _ (by intro e;have:=congrArg Addr.off e;simp at this)).trans ((fZ (w:=w) hb).trans h.c1)
 ·exact(cO _ _ _ _ (by intro e;have:=congrArg Addr.off e;simp at this)).trans ((fZ (w:=w) hb).trans h.c2)
 ·rw[World.frozen?_setCell];exact(fB (w:=w) hb).trans (h.f i hi)
 ·exact A.own.kept (by simp[World.setCell]) (λg hg=>jB _ _ _ _ (λe=>hne (by rw[hg];exact congrArg some e)))
 ·exact⟨(h.ar.o1.kept g1 (hx _ (λj hj=>(h.vx j hj).1))).kept g2 (.inr h.na.1),(h.ar.o2.kept g1 (hx _ (λj hj=>(h.vx j hj).2))).kept g2 (.inr h.na.2),h.ar.ne⟩
 ·rcases A.at_ j hj with h9|h9
  ·exact h.vx j h9
  ·exact⟨λe=>by have:=(h.ar.o1.lt j e).2;omega,λe=>by have:=(h.ar.o2.lt j e).2;omega⟩
theorem Ck.set{B:Nat}{x' y':Value}{a':Ar.A}(h:Ck B p w v l x y a)(ha:aD lo w x' y' a')(hlo:p<lo)(hv:∀g,v.ownBlock=some g->g<lo):Ck B p ((w.setCell ⟨p,1,none⟩ x').setCell ⟨p,2,none⟩ y') v l x' y' a'/\Below B w ((w.setCell ⟨p,1,none⟩ x').setCell ⟨p,2,none⟩ y'):=by
 have g1:=Ze w ⟨p,1,none⟩ x';have g2:=Ze (w.setCell ⟨p,1,none⟩ x') ⟨p,2,none⟩ y';have n1:x'.ownBlock≠some p:=λe=>by have:=(ha.o1.lt p e).1;omega
 have n2:y'.ownBlock≠some p:=λe=>by have:=(ha.o2.lt p e).1;omega
 have hB:B<=lo:=nL (Nat.lt_of_le_of_lt h.hp hlo);refine⟨⟨h.hp,h.gB,?_,?_,?_,?_,λi hi=>?_,?_,?_,h.nv,⟨n1,n2⟩,λj hj=>?_⟩,((bR _ _).setCell h.hp _).setCell h.hp _⟩
 ·have:=h.lt;simpa[World.setCell]using this
 ·exact(cO _ _ _ _ (by intro e;have:=congrArg Addr.off e;simp at this)).trans ((cO _ _ _ _ (by intro e;have:=congrArg Addr.off e;simp at this)).trans h.c0)
 ·exact(cO _ _ _ _ (by intro e;have:=congrArg Addr.off e;simp at this)).trans (cS _ _ _ h.c1)
 ·exact cS _ _ _ ((cO _ _ _ _ (by intro e;have:=congrArg Addr.off e;simp at this)).trans h.c2)
 ·rw[World.frozen?_setCell,World.frozen?_setCell];exact h.f i hi
 ·exact(h.own.kept (w':=w.setCell ⟨p,1,none⟩ x') (by simp[World.setCell]) (λg hg=>jB _ _ _ _ (λe=>h.nv (by rw[hg];exact congrArg some e)))).kept (by simp[World.setCell]) (λg hg=>jB _ _ _ _ (λe=>h.nv (by rw[hg];exact congrArg some e)))
 ·exact⟨qo ((ha.o1.kept g1 (.inr n1)).kept g2 (.inr n1)) hB,qo ((ha.o2.kept g1 (.inr n2)).kept g2 (.inr n2)) hB,ha.ne⟩
 ·exact⟨λe=>by have:=(ha.o1.lt j e).1;have:=hv j hj;omega,λe=>by have:=(ha.o2.lt j e).1;have:=hv j hj;omega⟩
theorem Gc(B p:Nat)(w:World)(v:Value)(l:List UInt8)(x y:Value)(a:Ar.A)(s:ByteArray)(h:Ck B p w v l x y a)(hl:l.length+s.size<=140737488355328) :
 Calls prog 20 #[.pointer (some ⟨p,0,none⟩),.string s] w λe w'=>e=.returned (.tuple #[])/\Below B w w'/\∃v',Ck B p w' v' (l++s.data.toList) x y a:=by
 have c0:=h.c0;have hO:=h.own;have hB:=h.ge;have hA:Hid (∀v' w1,App w w1 B v v' (l++s.data.toList)->Ck B p (w1.setCell ⟨p,0,none⟩ v') v' (l++s.data.toList) x y a/\Below B w (w1.setCell ⟨p,0,none⟩ v')):=λv' w1 A=>h.app A
 have hC:Hid (∀v' w1,App w w1 B v v' (l++s.data.toList)->w1.cell? ⟨p,0,none⟩=some v/\w1.frozen? ⟨p,0,none⟩=false):=λv' w1 A=>⟨(fZ (w:=w) (A.block p h.lt (λe=>h.nv e.symm))).trans h.c0,(fB (w:=w) (A.block p h.lt (λe=>h.nv e.symm))).trans (h.f 0 (by omega))⟩
 clear h;go_enter func20,ntmps20
 go_wp2_with (at_builtin;refine da _ rfl _ _ rfl B v l rfl hO s rfl hl hB ?_;intro v' w1 A;obtain⟨k0,kf⟩:=hC.out _ _ A;have A2:=hA.out _ _ A;obtain⟨x9,n9,c9,hv⟩:=A.own.slice;subst hv)
 go_end0
 exact⟨rfl,A2.2,_,A2.1⟩
theorem Qz(B p:Nat)(w:World)(v:Value)(l:List UInt8)(x y:Value)(a:Ar.A)(h:Ck B p w v l x y a) :
 CB 11 #[.pointer (some ⟨p,0,none⟩)] w (.string (ba l)):=by
 have c0:=h.c0;have hO:=h.own.str;clear h;go_enter func11,ntmps11
 go_wp2_with fail
 go_ret
 exact⟨rfl,bR _ _⟩
def ZJ(B p:Nat)(w:World)(v:Value)(l:List UInt8)(a:Ar.A)(t:List UInt8)(E:Int)(e:Ending)(w':World):Prop:=e=.returned (.tuple #[.string (ba t),.int .i64 E])/\On p w w'/\∃x y,Ck B p w' v l x y a
theorem QA(B p:Nat)(w:World)(v:Value)(l:List UInt8)(x y u1 u2:Value)(a:Ar.A)(E:Int)(h:Ck B p w v l x y a)(hE:E≠0) :
 Calls prog 32 #[.pointer (some ⟨p,0,none⟩),.agg #[u1,u2],.int .i64 E] w λe w'=>ZJ B p w v l a [] E e w':=by
 have d:(E==0)=false:=by simpa using hE
 have G:=Zb w (.cells #[u1,u2] 35 (0,0));have h2:=h.next G;have G2:=On.of (p:=p) G;unfold ZJ;clear h G;go_enter func32,ntmps32
 go_wp2_with fail
 go_ret2
 exact⟨rfl,G2,_,_,h2⟩
theorem QB(B p lo:Nat)(w:World)(v:Value)(l:List UInt8)(x y:Value)(a a':Ar.A)(ad af:Option Addr)(n m cd cf:Nat)(h:Ck B p w v l x y a)(ha:aD lo w (.slice ad n cd) (.slice af m cf) a')(hlo:p<lo)(hv:∀g,v.ownBlock=some g->g<lo) :
 Calls prog 32 #[.pointer (some ⟨p,0,none⟩),.agg #[.slice ad n cd,.slice af m cf],.int .i64 0] w λe w'=>ZJ B p w v l a' [111,107] 0 e w':=by
 have G:=Zb w (.cells #[.slice ad n cd,.slice af m cf] 35 (0,0));have XA:=Bx.new w (.slice ad n cd) (.slice af m cf);have h2:=h.next G;obtain⟨h3,G3⟩:=h2.set (ha.next G) hlo hv;have G2:=((On.of (p:=p) G).put 1 (.slice ad n cd)).put 2 (.slice af m cf);have k1:=h2.c1;have k2:=h2.c2;have z1:=h2.f 1 (by omega);have z2:=h2.f 2 (by omega);have b0:=XA.c0;have b1:=XA.c1;unfold ZJ;clear h h2 G G3 XA ha;go_enter func32,ntmps32
 go_wp2_with fail
 go_ret2
 exact⟨rfl,G2,_,_,h3⟩
theorem vP(B p lo:Nat)(w:World)(v:Value)(l:List UInt8)(x y:Value)(a a':Ar.A)(E:Int)(ad af:Option Addr)(n m cd cf:Nat)(h:Ck B p w v l x y a)(ha:aD lo w (.slice ad n cd) (.slice af m cf) a')(hlo:p<lo)(hv:∀g,v.ownBlock=some g->g<lo) :
 Calls prog 32 #[.pointer (some ⟨p,0,none⟩),.agg #[.slice ad n cd,.slice af m cf],.int .i64 E] w (ZJ B p w v l (if E=0 then a' else a) (if E=0 then [111,107] else []) E):=by
 by_cases hE:E=0
 ·subst hE;exact QB B p lo w v l x y a a' ad af n m cd cf h ha hlo hv
 ·rw[ab hE,ab hE];exact QA B p w v l x y _ _ a E h hE
theorem Gd(n:Nat)(w:World)(h:n<10000000000000000)(hT:Gl w) :
 CB 40 #[.int .i64 n,.int .i64 0] w (.tuple #[.string (ba (VJ n)),.int .i64 0]):=by
 have C:=vO n w h hT;generalize ba (VJ n)=D at*;go_enter func40,ntmps40
 go_wp2_with fail
 refine mo C λw2 G=>?_
 go_wp2_with fail
 go_ret2
 exact⟨rfl,G⟩
theorem mE{α:Type}{p:ByteArray->Option (α×ByteArray)}{enc:α->Im.B}{ok:α->Prop}(hp:Im.Rd p enc ok){s r:ByteArray}{x:α}(h:p s=some (x,r)):r.size<=s.size:=by
 have:=congrArg List.length ((hp s x r).1 h).2;rw[List.length_append,<-Zf,<-Zf]at this;omega
theorem On.set1(h:On p w w'){b:Nat}(hb:w.heap.size<=b)(o:Nat)(v:Value):On p w (w'.setCell ⟨b,o,none⟩ v) :=
 ⟨h.os,h.tape,h.output,by have:=h.size;simpa[World.setCell]using this,λk hk hne=>(jB _ _ _ _ (by simp;omega)).trans (h.block k hk hne)⟩
theorem On.past{w1:World}(h:On p w w1)(g:On p w1 w'):On p w w':=h.trans g
structure FB(w:World)(b:Nat)(f:Nat->Value):Prop where
 c:∀i,i<5->w.cell? ⟨b,i,none⟩=some (f i)
 z:∀i,i<5->w.frozen? ⟨b,i,none⟩=false
theorem FB.lt(h:FB w b f):b<w.heap.size:=World.block_lt_of_cell? w _ (h.c 0 (by omega))
theorem FB.on(h:FB w b f)(g:On p w w')(hne:b≠p):FB w' b f:=by
 have hb:=g.block b h.lt (by simp;omega);exact⟨λi hi=>(fZ (w:=w) (a:=⟨b,i,none⟩) hb).trans (h.c i hi),λi hi=>(fB (w:=w) (a:=⟨b,i,none⟩) hb).trans (h.z i hi)⟩
theorem FB.set(h:FB w b f)(i:Nat)(hi:i<5)(v:Value):FB (w.setCell ⟨b,i,none⟩ v) b (λj=>if j=i then v else f j):=by
 refine⟨λj hj=>?_,λj hj=>by rw[World.frozen?_setCell];exact h.z j hj⟩;by_cases e:j=i
 ·subst e;rw[ax rfl];exact cS _ _ _ (h.c j hj)
 ·rw[ab e];exact(cO _ _ _ _ (by intro h9;exact e (congrArg Addr.off h9).symm)).trans (h.c j hj)
theorem FB.new(w:World)(T:TypeId)(v0 v1 v2 v3 v4:Value):FB (w.alloc (.cells #[v0,v1,v2,v3,v4] T (0,0))) w.heap.size (λj=>if j=4 then v4 else if j=3 then v3 else if j=2 then v2 else if j=1 then v1 else v0) :=
 ⟨λi hi=>by
  match i,hi with
  |0,_=>exact cN _ _ _ 0
  |1,_=>exact cN _ _ _ 1
  |2,_=>exact cN _ _ _ 2
  |3,_=>exact cN _ _ _ 3
  |4,_=>exact cN _ _ _ 4,λi hi=>fN _ _ _ _ rfl⟩
theorem FB.low{b':Nat}(h:FB w b f)(hne:b≠b')(o:Nat)(v:Value):FB (w.setCell ⟨b',o,none⟩ v) b f :=
 ⟨λi hi=>(cO _ _ _ _ (by intro e;have:=congrArg Addr.block e;simp at this;omega)).trans (h.c i hi),λi hi=>by rw[World.frozen?_setCell];exact h.z i hi⟩
theorem cR.low{s:ByteArray}(h:cR w p s)(hne:p≠b)(o:Nat)(v:Value):cR (w.setCell ⟨b,o,none⟩ v) p s :=
 ⟨(cO _ _ _ _ (by intro e;have:=congrArg Addr.block e;simp at this;omega)).trans h.c,by rw[World.frozen?_setCell];exact h.f⟩
def jV(f:Ar.F):Value:=.agg #[.string f.name,.int .i64 f.dict,.int .i64 f.size,.int .i64 f.sum,.string f.blk]
theorem QC(s:ByteArray)(p:Nat)(w:World)(h:cR w p s)(hs:s.size<=281474976710656) :
 Calls prog 155 #[.pointer (some ⟨p,0,none⟩)] w λe w'=>Zp (WR s) jV p w e w':=by
 have hpl:=h.lt;have hN:Hid (WR s=none->∀w',On p w w'->Zp (WR s) jV p w (.panicked PN) w'):=λh9 w' h8=>iO h9 h8
 have hY:Hid (∀f r,WR s=some (f,r)->∀w',On p w w'->cR w' p r->Zp (WR s) jV p w (.returned (jV f)) w'):=λf r h9 w' h8 h7=>kj h9 h8 h7
 generalize Zp (WR s) jV p w=Q at*;have G0:On p w ((w.alloc (.cells #[.string ⟨#[]⟩,.int .i64 0,.int .i64 0,.int .i64 0,.string ⟨#[]⟩] 73 (0,0))).alloc (.cells #[.string ⟨#[]⟩,.int .i64 0,.int .i64 0,.int .i64 0,.string ⟨#[]⟩] 73 (0,0))):=On.of (((bR _ _).alloc (nl _) _).alloc (by simp) _);have F2:=(FB.new w 73 (.string ⟨#[]⟩) (.int .i64 0) (.int .i64 0) (.int .i64 0) (.string ⟨#[]⟩)).on (p:=p) (On.of ((bR _ _).alloc (nl _) (.cells #[.string ⟨#[]⟩,.int .i64 0,.int .i64 0,.int .i64 0,.string ⟨#[]⟩] 73 (0,0)))) (by omega);have F3:=FB.new (w.alloc (.cells #[.string ⟨#[]⟩,.int .i64 0,.int .i64 0,.int .i64 0,.string ⟨#[]⟩] 73 (0,0))) 73 (.string ⟨#[]⟩) (.int .i64 0) (.int .i64 0) (.int .i64 0) (.string ⟨#[]⟩);have R0:cR ((w.alloc (.cells #[.string ⟨#[]⟩,.int .i64 0,.int .i64 0,.int .i64 0,.string ⟨#[]⟩] 73 (0,0))).alloc (.cells #[.string ⟨#[]⟩,.int .i64 0,.int .i64 0,.int .i64 0,.string ⟨#[]⟩] 73 (0,0))) p s:=h.below (((bR _ _).alloc (nl _) _).alloc (by simp) _);have e9:(w.alloc (.cells #[.string ⟨#[]⟩,.int .i64 0,.int .i64 0,.int .i64 0,.string ⟨#[]⟩] 73 (0,0))).heap.size=w.heap.size+1:=by simp
 rw[e9]at F3;clear h e9;go_enter func155,ntmps155
 go_wp2_with fail
 generalize ((w.alloc (.cells #[.string ⟨#[]⟩,.int .i64 0,.int .i64 0,.int .i64 0,.string ⟨#[]⟩] 73 (0,0))).alloc (.cells #[.string ⟨#[]⟩,.int .i64 0,.int .i64 0,.int .i64 0,.string ⟨#[]⟩] 73 (0,0)))=w0 at*;have C:=Fk s p w0 R0 hs;unfold Zp at C
 cases h1:bn 512 s with
 |none =>
  rw[h1]at C;simp only at C;refine C.mono ?_;rintro e w1 ⟨G,rfl⟩;have hq:=hN.out (by simp only[WR,h1]) _ (G0.past G);go_wp2_with fail
  exact⟨rfl,hq⟩
 |some x =>
  obtain⟨nm,r1⟩:=x;rw[h1]at C;simp only at C;refine C.mono ?_;rintro e w1 ⟨G,rfl,R⟩;have hs1:=nt (mE (ny _) h1) hs;have jr:=F2.on G (by omega);have fj:=F3.on G (by omega)
  obtain⟨c,k⟩:∃c,w1.cell? ⟨w.heap.size+1,0,none⟩=some c:=⟨_,fj.c 0 (by omega)⟩
  have kz:=fj.z 0 (by omega);have F3:=fj.set 0 (by omega) (.string nm);have F2:=jr.low (b':=w.heap.size+1) (by omega) 0 (.string nm);have R1:=R.low (b:=w.heap.size+1) (by omega) 0 (.string nm);have G1:=(G0.past G).set1 (b:=w.heap.size+1) (by omega) 0 (.string nm);go_wp2_with fail
  clear jr fj k kz C G R;generalize w1.setCell _ _=v1 at*;have C:=sJ r1 p v1 R1 hs1;unfold Zp at C
  cases h2:Xx r1 with
  |none =>
   rw[h2]at C;simp only at C;refine C.mono ?_;rintro e w2 ⟨G,rfl⟩;have hq:=hN.out (by simp only[WR,h1,h2]) _ (G1.past G);go_wp2_with fail
   exact⟨rfl,hq⟩
  |some x =>
   obtain⟨d,r2⟩:=x;rw[h2]at C;simp only at C;refine C.mono ?_;rintro e w2 ⟨G,rfl,R⟩;have hs2:=nt (mE Yh h2) hs1;have jr:=F2.on G (by omega);have fj:=F3.on G (by omega)
   obtain⟨c,k⟩:∃c,w2.cell? ⟨w.heap.size+1,1,none⟩=some c:=⟨_,fj.c 1 (by omega)⟩
   have kz:=fj.z 1 (by omega);have F3:=fj.set 1 (by omega) (.int .i64 (d:Nat));have F2:=jr.low (b':=w.heap.size+1) (by omega) 1 (.int .i64 (d:Nat));have R2:=R.low (b:=w.heap.size+1) (by omega) 1 (.int .i64 (d:Nat));have G2:=(G1.past G).set1 (b:=w.heap.size+1) (by omega) 1 (.int .i64 (d:Nat));go_wp2_with fail
   clear jr fj k kz C G R;generalize (w2.setCell ⟨w.heap.size+1,1,none⟩ (.int .i64 (d:Nat)))=v2 at*;have C:=sJ r2 p v2 R2 hs2;unfold Zp at C
   cases h3:Xx r2 with
   |none =>
    rw[h3]at C;simp only at C;refine C.mono ?_;rintro e w3 ⟨G,rfl⟩;have hq:=hN.out (by simp only[WR,h1,h2,h3]) _ (G2.past G);go_wp2_with fail
    exact⟨rfl,hq⟩
   |some x =>
    obtain⟨z,r3⟩:=x;rw[h3]at C;simp only at C;refine C.mono ?_;rintro e w3 ⟨G,rfl,R⟩;have hs3:=nt (mE Yh h3) hs2;have jr:=F2.on G (by omega);have fj:=F3.on G (by omega)
    obtain⟨c,k⟩:∃c,w3.cell? ⟨w.heap.size+1,2,none⟩=some c:=⟨_,fj.c 2 (by omega)⟩
    have kz:=fj.z 2 (by omega);have F3:=fj.set 2 (by omega) (.int .i64 (z:Nat));have F2:=jr.low (b':=w.heap.size+1) (by omega) 2 (.int .i64 (z:Nat));have R3:=R.low (b:=w.heap.size+1) (by omega) 2 (.int .i64 (z:Nat));have G3:=(G2.past G).set1 (b:=w.heap.size+1) (by omega) 2 (.int .i64 (z:Nat));go_wp2_with fail
    clear jr fj k kz C G R;generalize (w3.setCell ⟨w.heap.size+1,2,none⟩ (.int .i64 (z:Nat)))=v3 at*;have C:=sJ r3 p v3 R3 hs3;unfold Zp at C
    cases h4:Xx r3 with
    |none =>
     rw[h4]at C;simp only at C;refine C.mono ?_;rintro e w4 ⟨G,rfl⟩;have hq:=hN.out (by simp only[WR,h1,h2,h3,h4]) _ (G3.past G);go_wp2_with fail
     exact⟨rfl,hq⟩
    |some x =>
     obtain⟨u,r4⟩:=x;rw[h4]at C;simp only at C;refine C.mono ?_;rintro e w4 ⟨G,rfl,R⟩;have hs4:=nt (mE Yh h4) hs3;have jr:=F2.on G (by omega);have fj:=F3.on G (by omega)
     obtain⟨c,k⟩:∃c,w4.cell? ⟨w.heap.size+1,3,none⟩=some c:=⟨_,fj.c 3 (by omega)⟩
     have kz:=fj.z 3 (by omega);have F3:=fj.set 3 (by omega) (.int .i64 (u:Nat));have F2:=jr.low (b':=w.heap.size+1) (by omega) 3 (.int .i64 (u:Nat));have R4:=R.low (b:=w.heap.size+1) (by omega) 3 (.int .i64 (u:Nat));have G4:=(G3.past G).set1 (b:=w.heap.size+1) (by omega) 3 (.int .i64 (u:Nat));go_wp2_with fail
     clear jr fj k kz C G R;generalize (w4.setCell ⟨w.heap.size+1,3,none⟩ (.int .i64 (u:Nat)))=v4 at*;have C:=OT r4 p v4 R4 hs4;unfold Zp at C
     cases h5:bn 2147483647 r4 with
     |none =>
      rw[h5]at C;simp only at C;refine C.mono ?_;rintro e w5 ⟨G,rfl⟩;have hq:=hN.out (by simp only[WR,h1,h2,h3,h4,h5]) _ (G4.past G);go_wp2_with fail
      exact⟨rfl,hq⟩
     |some x =>
      obtain⟨bk,r5⟩:=x;rw[h5]at C;simp only at C;refine C.mono ?_;rintro e w5 ⟨G,rfl,R⟩;have hs5:=nt (mE (ny _) h5) hs4;have jr:=F2.on G (by omega);have fj:=F3.on G (by omega)
      obtain⟨c,k⟩:∃c,w5.cell? ⟨w.heap.size+1,4,none⟩=some c:=⟨_,fj.c 4 (by omega)⟩
      have kz:=fj.z 4 (by omega);have F3:=fj.set 4 (by omega) (.string bk);have F2:=jr.low (b':=w.heap.size+1) (by omega) 4 (.string bk);have R5:=R.low (b:=w.heap.size+1) (by omega) 4 (.string bk);have G5:=(G4.past G).set1 (b:=w.heap.size+1) (by omega) 4 (.string bk);generalize hu:(w5.setCell ⟨w.heap.size+1,4,none⟩ (.string bk))=v5 at*;have y0:v5.cell? ⟨w.heap.size+1,0,none⟩=some (.string nm):=F3.c 0 (by omega);have y1:v5.cell? ⟨w.heap.size+1,1,none⟩=some (.int .i64 (d:Nat)):=F3.c 1 (by omega);have y2:v5.cell? ⟨w.heap.size+1,2,none⟩=some (.int .i64 (z:Nat)):=F3.c 2 (by omega);have y3:v5.cell? ⟨w.heap.size+1,3,none⟩=some (.int .i64 (u:Nat)):=F3.c 3 (by omega);have y4:v5.cell? ⟨w.heap.size+1,4,none⟩=some (.string bk):=F3.c 4 (by omega)
      obtain⟨o0,q0⟩:∃c,v5.cell? ⟨w.heap.size,0,none⟩=some c:=⟨_,F2.c 0 (by omega)⟩
      have g0:=F2.z 0 (by omega)
      obtain⟨o1,q1⟩:∃c,v5.cell? ⟨w.heap.size,1,none⟩=some c:=⟨_,F2.c 1 (by omega)⟩
      have g1:=F2.z 1 (by omega)
      obtain⟨o2,q2⟩:∃c,v5.cell? ⟨w.heap.size,2,none⟩=some c:=⟨_,F2.c 2 (by omega)⟩
      have g2:=F2.z 2 (by omega)
      obtain⟨o3,q3⟩:∃c,v5.cell? ⟨w.heap.size,3,none⟩=some c:=⟨_,F2.c 3 (by omega)⟩
      have g3:=F2.z 3 (by omega)
      obtain⟨o4,q4⟩:∃c,v5.cell? ⟨w.heap.size,4,none⟩=some c:=⟨_,F2.c 4 (by omega)⟩
      have g4:=F2.z 4 (by omega);have E:=((((F2.set 0 (by omega) (.string nm)).set 1 (by omega) (.int .i64 (d:Nat))).set 2 (by omega) (.int .i64 (z:Nat))).set 3 (by omega) (.int .i64 (u:Nat))).set 4 (by omega) (.string bk);have hq:=hY.out ⟨nm,(d:Nat),(z:Nat),(u:Nat),bk⟩ r5 (by simp only[WR,h1,h2,h3,h4,h5]) _ (((((G5.set1 (b:=w.heap.size) (by omega) 0 (.string nm)).set1 (b:=w.heap.size) (by omega) 1 (.int .i64 (d:Nat))).set1 (b:=w.heap.size) (by omega) 2 (.int .i64 (z:Nat))).set1 (b:=w.heap.size) (by omega) 3 (.int .i64 (u:Nat))).set1 (b:=w.heap.size) (by omega) 4 (.string bk)) (((((R5.low (b:=w.heap.size) (by omega) 0 (.string nm)).low (b:=w.heap.size) (by omega) 1 (.int .i64 (d:Nat))).low (b:=w.heap.size) (by omega) 2 (.int .i64 (z:Nat))).low (b:=w.heap.size) (by omega) 3 (.int .i64 (u:Nat))).low (b:=w.heap.size) (by omega) 4 (.string bk));clear G0 G1 G2 G3 G4 G5 R0 R1 R2 R3 R4 R5 jr fj G R hN hY C h1 h2 h3 h4 h5;go_wp2_with fail
      clear y0 y1 y2 y3 y4 q0 q1 q2 q3 q4 g0 g1 g2 g3 g4 hu;generalize (((((v5.setCell ⟨w.heap.size,0,none⟩ (.string nm)).setCell ⟨w.heap.size,1,none⟩ (.int .i64 (d:Nat))).setCell ⟨w.heap.size,2,none⟩ (.int .i64 (z:Nat))).setCell ⟨w.heap.size,3,none⟩ (.int .i64 (u:Nat))).setCell ⟨w.heap.size,4,none⟩ (.string bk))=v6 at*;have y0:v6.cell? ⟨w.heap.size,0,none⟩=some (.string nm):=E.c 0 (by omega);have y1:v6.cell? ⟨w.heap.size,1,none⟩=some (.int .i64 (d:Nat)):=E.c 1 (by omega);have y2:v6.cell? ⟨w.heap.size,2,none⟩=some (.int .i64 (z:Nat)):=E.c 2 (by omega);have y3:v6.cell? ⟨w.heap.size,3,none⟩=some (.int .i64 (u:Nat)):=E.c 3 (by omega);have y4:v6.cell? ⟨w.heap.size,4,none⟩=some (.string bk):=E.c 4 (by omega);exact bodyPost_ret (v:=.agg #[.string nm,.int .i64 (d:Nat),.int .i64 (z:Nat),.int .i64 (u:Nat),.string bk]) (by simp[results,results155,go_sem,y0,y1,y2,y3,y4]) rfl hq
namespace Dk
inductive Ord where
 |put (name text:List UInt8) (dict:Nat)
 |drop (name:List UInt8)
 |gx (n:Nat)
 |compact
 |get (name:List UInt8)
 |range (name:List UInt8) (i n:Nat)
 |list
 |size
 |save
def bK:List UInt8:=[112,117,116]
def aT:List UInt8:=[100,114,111,112]
def aI:List UInt8:=[116,114,97,105,110]
def au:List UInt8:=[99,111,109,112,97,99,116]
def YN:List UInt8:=[103,101,116]
def aK:List UInt8:=[114,97,110,103,101]
def Yz:List UInt8:=[108,105,115,116]
def YA:List UInt8:=[115,105,122,101]
def Yi:List UInt8:=[115,97,118,101]
def VW(line:List UInt8):Option Ord :=
 let c:=Wr 32 line
 let c1:=Wr 32 c.2.1
 let c2:=Wr 32 c1.2.1
 let c3:=Wr 32 c2.2.1
 if c.1=bK then if c.2.2/\c1.2.2/\Ws c2.1/\c2.2.2 then some (.put c1.1 c2.2.1 (val c2.1)) else none
 else if c.1=aT then if c.2.2/\¬c1.2.2 then some (.drop c1.1) else none
 else if c.1=YN then if c.2.2/\¬c1.2.2 then some (.get c1.1) else none
 else if c.1=aI then if c.2.2/\Ws c1.1/\¬c1.2.2 then some (.gx (val c1.1)) else none
 else if c.1=aK then if c.2.2/\c1.2.2/\Ws c2.1/\c2.2.2/\Ws c3.1/\¬c3.2.2 then some (.range c1.1 (val c2.1) (val c3.1)) else none
 else if c.1=au then if c.2.2 then none else some .compact
 else if c.1=Yz then if c.2.2 then none else some .list
 else if c.1=YA then if c.2.2 then none else some .size
 else if c.1=Yi then if c.2.2 then none else some .save
 else none
def V0(e:Int):List UInt8:=[101,114,114,111,114,32]++VJ e.toNat
theorem js:∀(k n:Nat),1<=k->n<10^k->(VJ n).length<=k
 |0,_,h,_=>absurd h (by decide)
 |k+1,n,_,hn=>by
  by_cases h:n<10
  ·rw[aa1 h];simp
  ·have hk:1<=k:=by
    cases k with
    |zero=>exact absurd hn (by simpa using h)
    |succ k=>omega
   have:=js k (n/10) hk (Nat.div_lt_of_lt_mul (by rw[Nat.mul_comm];exact hn));rw[dL h,List.length_append,List.length_singleton];omega
theorem XW(h:n<10000000000000000):(VJ n).length<=16:=js 16 n (by decide) h
def XO(e:Int):Prop:=0<=e/\e<=9
theorem fk{e:Int}(h:XO e):(V0 e).length<=22:=by
 have:=XW (n:=e.toNat) (by have:=h.2;omega);unfold V0;rw[List.length_append];simp;omega
end Dk
open Dk (ba w1 w2 w3)
namespace Dk
def WI(f:Nat->Value):Value:=.agg #[f 0,f 1,f 2,f 3,f 4]
def oc(v n t:List UInt8)(i k:Nat):Nat->Value:=λj=>if j=4 then .int .i64 k else if j=3 then .int .i64 i else if j=2 then .string (ba t) else if j=1 then .string (ba n) else .string (ba v)
def oz:Nat->Value:=oc [] [] [] 0 0
def iY:Option Ord->Nat->Value
 |none=>oz
 |some (.put n t d)=>oc bK n t 0 d
 |some (.drop n)=>oc aT n [] 0 0
 |some (.gx n)=>oc aI [] [] 0 n
 |some .compact=>oc au [] [] 0 0
 |some (.get n)=>oc YN n [] 0 0
 |some (.range n i k)=>oc aK n [] i k
 |some .list=>oc Yz [] [] 0 0
 |some .size=>oc YA [] [] 0 0
 |some .save=>oc Yi [] [] 0 0
end Dk
structure DR(w0 w:World)(f:Nat->Value)(r:List UInt8)(m:Bool):Prop where
 b:ae w0 w
 F:FB w w0.heap.size f
 K:Cl w (w0.heap.size+1) (.bool false)
 X:Bx w (w0.heap.size+2) (.string (ba r)) (.bool m)
structure DT(w0 w:World)(f:Nat->Value)(g:Bool):Prop where
 b:ae w0 w
 F:FB w w0.heap.size f
 K:Cl w (w0.heap.size+1) (.bool g)
theorem DR.gP(h:DR w0 w f r m)(O:On (w0.heap.size+2) w w'):DT w0 w' f false :=
 ⟨h.b.trans (O.under (lo:=w0.heap.size) (by omega) h.b.size),h.F.on O (by omega),h.K.on O (by omega)⟩
theorem DR.on{r':List UInt8}{m':Bool}(h:DR w0 w f r m)(O:On (w0.heap.size+2) w w')(X:Bx w' (w0.heap.size+2) (.string (ba r')) (.bool m')):DR w0 w' f r' m' :=
 ⟨(h.gP O).b,(h.gP O).F,(h.gP O).K,X⟩
theorem DR.put(h:DR w0 w f r m)(i:Nat)(hi:i<5)(v:Value):DR w0 (w.setCell ⟨w0.heap.size,i,none⟩ v) (λj=>if j=i then v else f j) r m :=
 ⟨h.b.setCell (nl _) _,h.F.set i hi v,h.K.other (by omega) i v,h.X.other (by omega) i v⟩
theorem DR.set(h:DR w0 w f r m)(g:Bool):DT w0 (w.setCell ⟨w0.heap.size+1,0,none⟩ (.bool g)) f g :=
 ⟨h.b.setCell (p:=⟨w0.heap.size+1,0,none⟩) (by simp) _,h.F.low (by omega) 0 _,⟨cS _ _ _ h.K.1,by rw[World.frozen?_setCell];exact h.K.2⟩⟩
theorem DT.zero(h:DT w0 w f g):DT w0 ((((((w.setCell ⟨w0.heap.size,0,none⟩ (.string ⟨#[]⟩)).setCell ⟨w0.heap.size,1,none⟩ (.string ⟨#[]⟩)).setCell ⟨w0.heap.size,2,none⟩ (.string ⟨#[]⟩)).setCell ⟨w0.heap.size,3,none⟩ (.int .i64 0)).setCell ⟨w0.heap.size,4,none⟩ (.int .i64 0)).setCell ⟨w0.heap.size+1,0,none⟩ (.bool false)) oz false:=by
 have F:=((((h.F.set 0 (by omega) (.string ⟨#[]⟩)).set 1 (by omega) (.string ⟨#[]⟩)).set 2 (by omega) (.string ⟨#[]⟩)).set 3 (by omega) (.int .i64 0)).set 4 (by omega) (.int .i64 0);have K:=((((h.K.other (c:=w0.heap.size) (by omega) 0 (.string ⟨#[]⟩)).other (c:=w0.heap.size) (by omega) 1 (.string ⟨#[]⟩)).other (c:=w0.heap.size) (by omega) 2 (.string ⟨#[]⟩)).other (c:=w0.heap.size) (by omega) 3 (.int .i64 0)).other (c:=w0.heap.size) (by omega) 4 (.int .i64 0);refine⟨(((((h.b.setCell (p:=⟨w0.heap.size,0,none⟩) (nl _) _).setCell (p:=⟨w0.heap.size,1,none⟩) (nl _) _).setCell (p:=⟨w0.heap.size,2,none⟩) (nl _) _).setCell (p:=⟨w0.heap.size,3,none⟩) (nl _) _).setCell (p:=⟨w0.heap.size,4,none⟩) (nl _) _).setCell (p:=⟨w0.heap.size+1,0,none⟩) (by simp) _,?_,⟨cS _ _ _ K.1,by rw[World.frozen?_setCell];exact K.2⟩⟩;have F2:=F.low (b':=w0.heap.size+1) (by omega) 0 (.bool false);refine⟨λi hi=>?_,F2.z⟩;rw[F2.c i hi]
 match i,hi with
 |0,_=>rfl
 |1,_=>rfl
 |2,_=>rfl
 |3,_=>rfl
 |4,_=>rfl
theorem QD(w0 w:World)(f:Nat->Value)(g:Bool)(h:DT w0 w f g) :
 CallsD prog 56 #[.pointer (some ⟨w0.heap.size,0,none⟩),.pointer (some ⟨w0.heap.size+1,0,none⟩)] (.panicking PN) w λe u' w' =>
  e=.returned (.tuple #[])/\u'=.panicking [{ v:=.iface 22 (.int .i64 1),recovered:=true }]/\DT w0 w' oz false:=by
 have hD:=h.zero;have F1:=h.F.set 0 (by omega) (.string ⟨#[]⟩);have F2:=F1.set 1 (by omega) (.string ⟨#[]⟩);have F3:=F2.set 2 (by omega) (.string ⟨#[]⟩);have F4:=F3.set 3 (by omega) (.int .i64 0);have K:=((((h.K.other (c:=w0.heap.size) (by omega) 0 (.string ⟨#[]⟩)).other (c:=w0.heap.size) (by omega) 1 (.string ⟨#[]⟩)).other (c:=w0.heap.size) (by omega) 2 (.string ⟨#[]⟩)).other (c:=w0.heap.size) (by omega) 3 (.int .i64 0)).other (c:=w0.heap.size) (by omega) 4 (.int .i64 0);have c0:=h.F.c 0 (by omega);have z0:=h.F.z 0 (by omega);have c1:=F1.c 1 (by omega);have z1:=F1.z 1 (by omega);have c2:=F2.c 2 (by omega);have z2:=F2.z 2 (by omega);have c3:=F3.c 3 (by omega);have z3:=F3.z 3 (by omega);have c4:=F4.c 4 (by omega);have z4:=F4.z 4 (by omega);obtain⟨kc,kz⟩:=K;unfold PN;clear h F1 F2 F3 F4;refine callsD_of_wpS func56 rfl λc₀ cs hu=>?_
 apply wpS_seq;apply wpS_region;simp[wpOpsS,go_sem,recoverD,hu,ntmps56,Exit.thenS];refine wpS_cond (t:=true) (by simp[Act.eval,Array.replicate]) ?_;simp only[if_true];apply wpS_region;simp[wpOpsS,go_sem,c0,z0,c1,z1,c2,z2,c3,z3,c4,z4,kc,kz,bodyPostS,results,results56];exact hD
theorem QE(p q:Nat)(w:World) :
 CallsD prog 56 #[.pointer (some ⟨p,0,none⟩),.pointer (some ⟨q,0,none⟩)] .returning w λe u' w'=>e=.returned (.tuple #[])/\u'=.returning/\w'=w:=by
 refine callsD_of_wpS func56 rfl λc₀ cs hu=>?_
 apply wpS_seq;apply wpS_region;simp[wpOpsS,go_sem,recoverD,hu,ntmps56,Exit.thenS];refine wpS_cond (t:=false) (by simp[Act.eval,Array.replicate]) ?_;simp only[Bool.false_eq_true,if_false];refine wpS_of_wp (wp_skip ?_)
 cases c₀
 simp_all[bodyPostS,results,results56]
theorem Ge(h:DT w0 w f g)(h2:tmps[2]?=some (.pointer (some ⟨w0.heap.size,0,none⟩)))(h3:tmps[3]?=some (.pointer (some ⟨w0.heap.size+1,0,none⟩))) :
 (results Tryz.f31 tmps).run prog w=.ok (.tuple #[WI f,.bool g]) w:=by
 have c0:=h.F.c 0 (by omega);have c1:=h.F.c 1 (by omega);have c2:=h.F.c 2 (by omega);have c3:=h.F.c 3 (by omega);have c4:=h.F.c 4 (by omega);have k:=h.K.1;simp[results,results31,go_sem,h2,h3,c0,c1,c2,c3,c4,k,WI]
theorem ZP{R:Ending->World->Prop}(h:DT w0 w f g)(h2:tmps[2]?=some (.pointer (some ⟨w0.heap.size,0,none⟩)))(h3:tmps[3]?=some (.pointer (some ⟨w0.heap.size+1,0,none⟩)))(hR:∀w',ae w0 w'->R (.returned (.tuple #[WI oz,.bool false])) w') :
 Leaves prog Tryz.f31 tmps R [{ target:=.fn (.func 56) #[.pointer (some ⟨w0.heap.size,0,none⟩),.pointer (some ⟨w0.heap.size+1,0,none⟩)],args:=#[] }] (.panicking PN) w:=by
 refine leaves_cons (f:=56) (args:=#[.pointer (some ⟨w0.heap.size,0,none⟩),.pointer (some ⟨w0.heap.size+1,0,none⟩)]) (by simp) (by simp[go_sem]) ?_;refine(QD w0 w f g h).mono ?_;rintro e u' w3 ⟨rfl,rfl,D⟩;simp only[settle];exact⟨_,Ge D h2 h3,hR _ D.b⟩
theorem qv{R:Ending->World->Prop}(h:DT w0 w f g)(h2:tmps[2]?=some (.pointer (some ⟨w0.heap.size,0,none⟩)))(h3:tmps[3]?=some (.pointer (some ⟨w0.heap.size+1,0,none⟩)))(hR:∀w',ae w0 w'->R (.returned (.tuple #[WI f,.bool g])) w') :
 Leaves prog Tryz.f31 tmps R [{ target:=.fn (.func 56) #[.pointer (some ⟨w0.heap.size,0,none⟩),.pointer (some ⟨w0.heap.size+1,0,none⟩)],args:=#[] }] .returning w:=by
 refine leaves_cons (f:=56) (args:=#[.pointer (some ⟨w0.heap.size,0,none⟩),.pointer (some ⟨w0.heap.size+1,0,none⟩)]) (by simp) (by simp[go_sem]) ?_;refine(QE _ _ _).mono ?_;rintro e u' w3 ⟨rfl,rfl,rfl⟩;exact⟨_,Ge h h2 h3,hR _ h.b⟩
end Go.Proofs.YtbjbjbpgmojcbacGreatDoor
