/- A part of the proof: what it leans on. -/
import Derived.RegionTactic
import Derived.ChangeAlike
import Derived.Lib.QuietBelow
import Derived.Test.YtbjbjbpgmojcbacGreatDoorDk15
set_option maxRecDepth 8000
set_option maxHeartbeats 8000000
namespace Go.Proofs.YtbjbjbpgmojcbacGreatDoor
open Ar Bk Cd Dk Im Tk Tr Vy
open Tryz
variable{a:Ar.A}{d:ByteArray}{fs:List Ar.F}{L xs:List ByteArray}{i k lo:Nat}{w:World}
open Go.RowKit
namespace Tr
def iy(L:List ByteArray)(d:ByteArray):Nat->Option Nat
 |0=>none
 |k+1=>match iy L d k with
  |some i=>some i
  |none=>if st (VA L k) d=true then none else some k
theorem Rq(h:iy L d k=some i):∀j,iy L d (k+j)=some i:=by
 intro j
 induction j with
 |zero=>exact h
 |succ j ih=>rw[<-Nat.add_assoc,iy,ih]
theorem Aw{L:List ByteArray}{d:ByteArray}:∀{k:Nat},(match iy L d k with|none=>∀j,j<k->st (VA L j) d=true|some i=>i<k/\st (VA L i) d=false/\∀j,j<i->st (VA L j) d=true)
 |0=>by intro j h;omega
 |k+1=>by
  have ih:=Aw (L:=L) (d:=d) (k:=k);rw[iy]
  cases h:iy L d k with
  |some i=>rw[h]at ih;exact⟨by have:=ih.1;omega,ih.2⟩
  |none =>
   rw[h]at ih;simp only at ih |-
   by_cases hs:st (VA L k) d=true
   ·rw[ax hs];intro j hj;by_cases e:j=k
    ·subst e;exact hs
    ·exact ih j (by omega)
   ·rw[ab hs];exact⟨by omega,by simpa using hs,ih⟩
def YR(L:List ByteArray)(d:ByteArray):Int:=match iy L d L.length with|none=>-1|some i=>(i:Int)
end Tr
theorem Rr(p d:ByteArray)(bx:Nat)(w:World)(hc:w.cell? ⟨bx,0,none⟩=some (.string d))(hM:Mx w)(hd:d.size<=4000000000)(hp:0<p.size) :
 Calls prog 107 #[.string p,.pointer (some ⟨bx,0,none⟩)] w λe w'=>e=.returned (.bool (!Tr.st p d))/\w'=w:=by
 have c1:=Of d p w hM hd hp;generalize Tr.st p d=r at*;go_enter func107,ntmps107
 go_wp2_with fail
 refine mo c1 ?_;rintro w2 rfl;go_wp2_with fail
 go_ret
 exact⟨rfl,rfl⟩
theorem Rs(L:List ByteArray)(d:ByteArray)(b off cap bx:Nat)(w:World)(hx:WV w b off L)(hn:L.length<=100000)(hc:w.cell? ⟨bx,0,none⟩=some (.string d))(hM:Mx w)(hd:d.size<=4000000000)(hp:∀i,i<L.length->(VA L i).size=4) :
 Calls prog 106 #[.slice (some ⟨b,off,none⟩) L.length cap,.func (.func 107) #[] #[.pointer (some ⟨bx,0,none⟩)]] w λe w'=>e=.returned (.int .i64 (YR L d))/\w'=w:=by
 have HX:=Za hx.2;have HP:=Za λi (hi:i<L.length)=>Rr _ d bx w hc hM hd (by rw[hp i hi];omega)
 clear hp hc hM hx
 obtain⟨r,hr⟩:∃r,YR L d=r:=⟨_,rfl⟩
 rw[hr];have Hr:Hid ((match iy L d L.length with|none=>(-1:Int)|some i=>(i:Int))=r):=hr;clear hr;go_enter func106,ntmps106
 go_wp2_with fail
 go_loopw [8] (λi wr=>∃k:Nat,k<=L.length/\i=.int .i64 k/\Hid (iy L d k=none)/\wr=w) (λi _=>L.length-(intOf i).toNat)
 case atStart=>exact⟨0,by omega,rfl,rfl,rfl⟩
 case round =>
  obtain⟨k,hk2,rfl,HL,rfl⟩:=hrel;by_cases hlt:k<L.length
  ·have d1:=al (by omega:(k:Int)<(L.length:Int));have d1':=al (by omega:k<L.length);have hki:(k:Int)<(L.length:Int):=by omega
   have c1:=HX.out k hlt;have c2:=HP.out k hlt
   cases hs:Tr.st (VA L k) d with
   |false =>
    have HN:Hid (iy L d (k+1)=some k):=by show _=_;rw[iy,HL.out];simp only;rw[hs];rfl
    have HR:Hid ((k:Int)=r):=by
     have h9:=Rq HN.out (L.length-(k+1));rw[show k+1+(L.length-(k+1))=L.length by omega]at h9;have:=Hr.out;rw[h9]at this;exact this
    rw[hs]at c2;generalize VA L k=X at*;clear HN hs;go_wp2_with fail
    refine mo c2 ?_;rintro w2 rfl;go_wp2_with fail
    go_ret
    exact⟨congrArg (λx=>Ending.returned (Value.int .i64 x)) HR.out,rfl⟩
   |true =>
    have HN:Hid (iy L d (k+1)=none):=by show _=_;rw[iy,HL.out];exact ax hs
    rw[hs]at c2;generalize VA L k=X at*;clear hs;go_wp2_with fail
    refine mo c2 ?_;rintro w2 rfl;go_wp2_with fail
    go_roundw
    case rel=>exact⟨k+1,by omega,by go_num,HN,by trivial⟩
    case measure=>simp[intOf];omega
  ·obtain rfl:k=L.length:=by omega
   have HR:Hid ((-1:Int)=r):=by have:=Hr.out;rw[HL.out]at this;exact this
   have d1:decide ((L.length:Int)<(L.length:Int))=false:=by simp
   clear Hr;go_wp2_with fail
   go_ret
   exact⟨congrArg (λx=>Ending.returned (Value.int .i64 x)) HR.out,rfl⟩
theorem Rt(ad:Option Addr)(cap:Nat)(fv:Value)(w:World) :
 Calls prog 106 #[.slice ad 0 cap,fv] w λe w'=>e=.returned (.int .i64 (-1))/\w'=w:=by
 go_enter func106,ntmps106
 go_wp2_with fail
 go_loopw [8] (λi wr=>i=.int .i64 0/\wr=w) (λi _=>0)
 case atStart=>exact⟨rfl,rfl⟩
 case round =>
  obtain⟨rfl,rfl⟩:=hrel;go_wp2_with fail
  go_ret
  exact⟨rfl,rfl⟩
theorem Ru(lo:Nat)(L:List ByteArray)(d:ByteArray)(ad:Option Addr)(cap bx:Nat)(w:World)(hx:XU lo w ad L)(hn:L.length<=100000)(hc:w.cell? ⟨bx,0,none⟩=some (.string d))(hM:Mx w)(hd:d.size<=4000000000)(hp:∀i,i<L.length->(VA L i).size=4) :
 Calls prog 106 #[.slice ad L.length cap,.func (.func 107) #[] #[.pointer (some ⟨bx,0,none⟩)]] w λe w'=>e=.returned (.int .i64 (YR L d))/\w'=w:=by
 rcases hx with rfl|⟨b,off,rfl,_,h2⟩
 ·exact Rt ad cap _ w
 ·exact Rs L d b off cap bx w h2 hn hc hM hd hp
namespace Tr
theorem XU.set{ad:Option Addr}(h:XU lo w ad xs){bx:Nat}(hb:bx<lo)(v:Value):XU lo (w.setCell ⟨bx,0,none⟩ v) ad xs:=by
 rcases h with h|⟨b,off,h1,h2,h3⟩
 ·exact .inl h
 ·refine .inr ⟨b,off,h1,h2,by simpa using h3.1,λi hi=>?_⟩;exact(cO w _ _ _ (by intro e;have:=congrArg Addr.block e;simp at this;omega)).trans (h3.2 i hi)
theorem XU.drop{b off:Nat}(h2:lo<=b)(h:WV w b off xs)(j:Nat):XU lo w (some ⟨b,off+j,none⟩) (xs.drop j):=by
 refine .inr ⟨b,off+j,rfl,h2,h.1,λi hi=>?_⟩;rw[List.length_drop]at hi;rw[show off+j+i=off+(j+i) by omega,h.2 (j+i) (by omega)];simp[VA]
def aad:Value->Nat
 |.slice _ n _=>n
 |_=>0
theorem qD(h:i<L.length):VA L i=L[i]:=by simp[VA,h]
theorem Rv{pre P:List ByteArray}(h:Rk xs (pre++P))(hpre:∀p,p∈pre->st p d=true){i:Nat}(hf:iy P d P.length=some i) :
 i<P.length/\best xs d=VA P i/\(VA P i).size=4/\(∀p,p∈pre++P.take (i+1)->st p (VA P i++d)=true):=by
 have hs:=Aw (L:=P) (d:=d) (k:=P.length);rw[hf]at hs;obtain⟨h1,h2,h3⟩:=hs;have hm:VA P i∈pre++P:=by rw[qD h1];exact List.mem_append_right _ (gM h1)
 have h4:=((h.2 _).1 hm).1;refine⟨h1,?_,h4,?_⟩
 ·have hi:pre.length+i<(pre++P).length:=by rw[List.length_append];omega
  have e:(pre++P)[pre.length+i]=VA P i:=by rw[qD h1,List.getElem_append_right (by omega)];simp
  rw[<-e];refine IX h hi (by rw[e];exact h2) λk hk=>?_
  by_cases hk2:k<pre.length
  ·rw[List.getElem_append_left hk2];exact hpre _ (gM hk2)
  ·rw[List.getElem_append_right (by omega),<-qD];exact h3 _ (by omega)
 ·intro p hp;rw[List.mem_append]at hp;rcases hp with hp|hp
  ·exact BG (hpre p hp)
  ·obtain⟨k,hk,rfl⟩:=List.mem_iff_getElem.1 hp;rw[List.length_take]at hk;rw[List.getElem_take,<-qD];by_cases e:k=i
   ·subst e;exact IU _ _
   ·exact BG (h3 k (by omega))
theorem Rw{pre P:List ByteArray}(h:Rk xs (pre++P))(hpre:∀p,p∈pre->st p d=true)(hf:iy P d P.length=none):(best xs d).size=0:=by
 have hs:=Aw (L:=P) (d:=d) (k:=P.length);rw[hf]at hs;refine IY h λk hk=>?_
 by_cases hk2:k<pre.length
 ·rw[List.getElem_append_left hk2];exact hpre _ (gM hk2)
 ·rw[List.length_append]at hk;rw[List.getElem_append_right (by omega),<-qD];exact hs _ (by omega)
theorem Rx(h:XI xs=false):xs.length<=12/\∀i,(VA xs i).size<=512:=by
 rw[XI,Bool.or_eq_false_iff,decide_eq_false_iff_not]at h;refine⟨by omega,λi=>?_⟩;apply Nat.le_of_not_lt;intro hlt;by_cases hi:i<xs.length
 ·have:∀k,i<k->(Xg xs k).isSome=true:=by
   intro k hk
   induction k with
   |zero=>omega
   |succ k ih =>
    rw[Xg];by_cases e:i=k
    ·subst e
     cases Xg xs i with
     |some _=>rfl
     |none=>simp only;rw[ax hlt];rfl
    ·have:=ih (by omega)
     cases hq:Xg xs k with
     |some _=>rfl
     |none=>rw[hq]at this;cases this
  rw[this _ hi]at h
  cases h.2
 ·have:VA xs i=⟨#[]⟩:=by simp[VA,show xs.length<=i by omega]
  rw[this]at hlt;have:(⟨#[]⟩:ByteArray).size=0:=rfl;omega
end Tr
theorem Ry(xs:List ByteArray)(size:Int)(ad:Option Addr)(cap:Nat)(w:World)(hx:bz w ad xs)(hB:∀i,(VA xs i).size<=140737488355328)(hM:Mx w)(hm:XI xs=false)(h0:0<=size)(h1:size<=256) :
 CB 70 #[.slice ad xs.length cap,.int .i64 size] w (.tuple #[.string (Wq xs size.toNat),.int .i64 0]):=by
 obtain⟨hn,hX⟩:=Rx hm;have c1:=zf xs ad cap w hx hB;rw[hm]at c1;have HR:=Za λw' (hb:ae w w')=>Ov xs ad cap w' (hx.below hb) hn hX (hM.below hb)
 have HM:=Za λw' (hb:ae w w')=>hM.below hb
 have d1:decide (size<0)=false:=dF (by omega);have d2:decide ((256:Int)<size)=false:=dF (by omega);have HG:=Z7 xs size.toNat
 obtain⟨R,hR⟩:∃R,Wq xs size.toNat=R:=⟨_,rfl⟩
 rw[hR]at HG |-
 have HR0:Hid (gY xs size.toNat 65 ⟨#[]⟩=R):=hR;have hRs:R.size<=256:=by have:=HG.most;omega
 clear hX hx hB hM hm hR HG;go_enter func70,ntmps70
 go_wp2_with fail
 refine mo c1 λw1 B1=>?_
 clear c1;have c2:=HR.out (w1.alloc (.cells #[.string ⟨#[]⟩] 9 (0,0))) (B1.alloc B1.size _);go_wp2_with fail
 refine c2.mono ?_;rintro e w2 ⟨ad',cap',L,rfl,GP,hL6,hT,hRk,B2⟩;clear c2 HR
 have hcx:w2.cell? ⟨w1.heap.size,0,none⟩=some (.string ⟨#[]⟩):=by
  rw[B2.cell (p:=⟨w1.heap.size,0,none⟩) (by simp)];exact cell_one_new _ _ _ 0 _ rfl
 have hfx:w2.frozen? ⟨w1.heap.size,0,none⟩=false:=by
  rw[B2.frozen (p:=⟨w1.heap.size,0,none⟩) (by simp)];exact fN _ _ _ _ rfl
 have B3:=ag (B1.alloc B1.size (.cells #[.string ⟨#[]⟩] 9 (0,0))) B2;have hlo:w1.heap.size<(w1.alloc (.cells #[.string ⟨#[]⟩] 9 (0,0))).heap.size:=by simp
 have hwb:=B1.size;generalize (w1.alloc (.cells #[.string ⟨#[]⟩] 9 (0,0))).heap.size=lo at*;generalize w1.heap.size=bx at*;clear B1 B2;have HRk:=Za hRk;clear hRk;go_wp2_with fail
 go_loopw [7] (λv wr=>∃(pre P:List ByteArray) (d:ByteArray) (f:Nat) (qE:Option Addr) (c:Nat),v=.slice qE P.length c/\P.length<=c/\P.length<=6144/\Hid (pre++P=L)/\XU lo wr qE P/\Hid (∀p,p∈pre->Tr.st p d=true)/\Hid (gY xs size.toNat f d=R)/\Hid (4*f+d.size=260)/\d.size<=256/\wr.cell? ⟨bx,0,none⟩=some (.string d)/\wr.frozen? ⟨bx,0,none⟩=false/\ae w wr)
  (λv _=>aad v)
 case atStart=>exact⟨[],L,⟨#[]⟩,65,ad',cap',rfl,GP,hL6,rfl,hT,(λp hp=>by cases hp),HR0,rfl,by decide,hcx,hfx,B3⟩
 case round =>
  clear hcx hfx hT B3 GP hL6;obtain⟨pre,P,d,f,qE,c,rfl,Vp,Vq,Ax,hT,pg,b6,Hf,hd,hcx,hfx,B3⟩:=hrel;by_cases hfit:(d.size:Int)+4<=size
  ·have e1:=al hfit;have hrk:Rk xs (pre++P):=by rw[Ax.out];exact HRk.out
   have mO:∀i,i<P.length->(VA P i).size=4:=λi hi=>((hrk.2 _).1 (List.mem_append_right _ (by rw[Tr.qD hi];exact gM hi))).1
   have c3:=Ru lo P d qE c bx wr hT (by omega) hcx (HM.out _ B3) (by omega) mO;unfold YR at c3
   cases hq:iy P d P.length with
   |none =>
    rw[hq]at c3;simp only at c3
    have HN:Hid (d=R):=by
     have h9:=b6.out;rw[wQ (Rw hrk pg.out hq)]at h9;exact h9
    clear hq mO hrk;have c4:=λw=>ZY d w (by omega)
    go_wp2_with fail
    refine mo c3 ?_;rintro w3 rfl;go_wp2_with fail
    refine mo (c4 _) λw4 G=>?_
    go_wp2_with fail
    go_ret2
    exact⟨by rw[HN.out];rfl,ag B3 G⟩
   |some i =>
    rw[hq]at c3;simp only at c3;obtain⟨h2,h3,h4,h5⟩:=Tr.Rv hrk pg.out hq
    obtain⟨g,rfl⟩:∃g,f=g+1:=⟨f-1,by have:=Hf.out;omega⟩
    have HN:Hid (gY xs size.toNat g (VA P i++d)=R):=by
     have h9:=b6.out;rw[BQ (by omega) (by rw[h3];exact h4),h3]at h9;exact h9
    have oa:=Za h5;have tw:Hid (pre++P.take (i+1)++P.drop (i+1)=L):=by show _=_;rw[List.append_assoc,List.take_append_drop];exact Ax.out
    rcases hT with hT|⟨b2,off2,rfl,hlo2,hTx⟩
    ·rw[hT]at h2;simp at h2
    have cX:=hTx.2 i h2;have DM:(VA P i++d).size=4+d.size:=by rw[ByteArray.size_append,h4]
    have hT2:=XU.drop hlo2 hTx (i+1);generalize VA P i=X at*;have hii:(i:Int)<(P.length:Int):=by omega
    have hi0:decide ((i:Int)<0)=false:=dF (by omega);have Vr:(i:Int)<=6144:=by omega
    have gj:X.size<=4:=by omega
    clear hq mO hrk b6 pg Ax h3 h5 hTx;go_wp2_with fail
    refine mo c3 ?_;rintro w3 rfl;go_wp2_with fail
    go_region
    have Rz:=(hT2.set hlo (.string (X++d)))
    have hc3:(w3.setCell ⟨bx,0,none⟩ (.string (X++d))).cell? ⟨bx,0,none⟩=some (.string (X++d)):=cS _ _ _ hcx;have hf3:(w3.setCell ⟨bx,0,none⟩ (.string (X++d))).frozen? ⟨bx,0,none⟩=false:=by rw[World.frozen?_setCell];exact hfx
    have B4:ae w (w3.setCell ⟨bx,0,none⟩ (.string (X++d))):=B3.setCell hwb _;have HD:Hid ((P.drop (i+1)).length=P.length-(i+1)):=List.length_drop ..;have Vs:((i:Int)+1)<=(P.length:Int):=by omega
    have hlc:(P.length:Int)<=(c:Int):=by omega
    by_cases hce:i+1=c
    ·subst hce;obtain hPl:P.length=i+1:=by omega
     go_wp2_with fail
     go_roundw
     case rel=>exact⟨pre++P.take (i+1),[],X++d,g,_,0,rfl,nl _,by simp,by have h9:=tw.out;rw[List.drop_of_length_le (by omega:P.length<=i+1)]at h9;exact h9,.inl rfl,oa,HN,by have:=Hf.out;show 4*g+_=260;omega,by omega,hc3,hf3,B4.drew⟩
     case measure=>simp[aad];omega
    ·have zK:¬((i:Int)+1=(c:Int)):=by omega
     go_wp2_with fail
     go_roundw
     case rel=>exact⟨pre++P.take (i+1),P.drop (i+1),X++d,g,_,c-(i+1),by rw[HD.out],by rw[HD.out];omega,by rw[HD.out];omega,tw,Rz,oa,HN,by have:=Hf.out;show 4*g+_=260;omega,by omega,hc3,hf3,B4.drew⟩
     case measure=>simp[aad];omega
  ·have e1:=dF hfit
   have HN:Hid (d=R):=by
    have h9:=b6.out;rw[BR (by omega)]at h9;exact h9
   have c4:=λw=>ZY d w (by omega)
   go_wp2_with fail
   refine mo (c4 _) λw4 G=>?_
   go_wp2_with fail
   go_ret2
   exact⟨by rw[HN.out];rfl,ag B3 G⟩
theorem RA(xs:List ByteArray)(size:Int)(ad:Option Addr)(cap:Nat)(w:World)(hx:bz w ad xs)(hB:∀i,(VA xs i).size<=140737488355328)(hm:XI xs=true) :
 CB 70 #[.slice ad xs.length cap,.int .i64 size] w (.tuple #[.string ⟨#[]⟩,.int .i64 2]):=by
 have c1:=zf xs ad cap w hx hB;rw[hm]at c1;clear hB hm hx;go_enter func70,ntmps70
 go_wp2_with fail
 refine mo c1 λw1 B1=>?_
 go_wp2_with fail
 go_ret2
 exact⟨rfl,B1⟩
theorem RB(xs:List ByteArray)(size:Int)(ad:Option Addr)(cap:Nat)(w:World)(hx:bz w ad xs)(hB:∀i,(VA xs i).size<=140737488355328)(hm:XI xs=false)(h:size<0\/256<size) :
 CB 70 #[.slice ad xs.length cap,.int .i64 size] w (.tuple #[.string ⟨#[]⟩,.int .i64 3]):=by
 have c1:=zf xs ad cap w hx hB;rw[hm]at c1;clear hB hm hx;by_cases h0:size<0
 ·have d1:=al h0;clear h;go_enter func70,ntmps70
  go_wp2_with fail
  refine mo c1 λw1 B1=>?_
  go_wp2_with fail
  go_ret2
  exact⟨rfl,B1⟩
 ·have d1:=dF h0;have h2:256<size:=by omega
  have d2:=al h2;clear h;go_enter func70,ntmps70
  go_wp2_with fail
  refine mo c1 λw1 B1=>?_
  go_wp2_with fail
  go_ret2
  exact⟨rfl,B1⟩
namespace Tr
def mP(xs:List ByteArray)(size:Int):Int:=if XI xs=true then 2 else if 0<=size/\size<=256 then 0 else 3
def XN(xs:List ByteArray)(size:Int):ByteArray:=if mP xs size=0 then Wq xs size.toNat else⟨#[]⟩
end Tr
theorem Ay(xs:List ByteArray)(size:Int)(ad:Option Addr)(cap:Nat)(w:World)(hx:bz w ad xs)(hB:∀i,(VA xs i).size<=140737488355328)(hM:Mx w) :
 CB 70 #[.slice ad xs.length cap,.int .i64 size] w (.tuple #[.string (XN xs size),.int .i64 (mP xs size)]):=by
 unfold XN mP
 cases hm:XI xs with
 |true=>simpa using RA xs size ad cap w hx hB hm
 |false =>
  by_cases h:0<=size/\size<=256
  ·simpa[h]using Ry xs size ad cap w hx hB hM hm h.1 h.2
  ·simpa[h]using RB xs size ad cap w hx hB hm (by omega)
theorem RC(ad af:Option Addr)(cd cf:Nat)(a:Ar.A)(size:Int)(w:World)(h:bo w ad af a)(hs:ao a)(hc:Vz a≠0) :
 Calls prog 35 #[av ad cd af cf a,.int .i64 size] w λe w'=>ah w VC (Vz a) e w':=by
 have C1:=Za λw' (h9:ae w w')=>oW ad af cd cf a w' (h.below h9) hs
 have hQ:Hid (∀w',ae w w'->ah w VC (Vz a) (.returned (.tuple #[.agg #[.slice none 0 0,.slice none 0 0],.int .i64 (Vz a)])) w'):=λw' h9=>ZC h9
 generalize ah w VC (Vz a)=Q at*;unfold jq at C1;unfold av at C1 |-
 generalize Vz a=E at*;generalize aY a=TX at*;generalize a.aa.length=D at*;generalize a.files.length=N at*;have e1:(E != 0)=true:=by simpa using hc
 have e2:(E==0)=false:=by simpa using hc
 clear h hs;go_enter func35,ntmps35
 go_wp2_with fail
 refine(C1.out _ (Fr.start w _ _).b).mono ?_;rintro e w1 ⟨dO,bT,L,rfl,_,_,_,_,G1⟩;have F1:=(Fr.start w _ _).next G1;clear G1;obtain⟨b,a0,a1,r0,r1,z0,z1,hz⟩:=id F1;go_wp2_with fail
 rw[F1.zero];exact bodyPost_ret (v:=.tuple #[.agg #[.slice none 0 0,.slice none 0 0],.int .i64 E]) (by simp[results,results35,go_sem,F1.r0,F1.r1]) rfl (hQ.out _ F1.b)
theorem RD(ad af:Option Addr)(cd cf:Nat)(a:Ar.A)(size:Int)(w:World)(h:bo w ad af a)(hs:ao a)(hM:Mx w)(hc:Vz a=0)(hz:¬(0<=size/\size<=256)) :
 Calls prog 35 #[av ad cd af cf a,.int .i64 size] w λe w'=>ah w VC 3 e w':=by
 have C1:=Za λw' (h9:ae w w')=>oW ad af cd cf a w' (h.below h9) hs
 have hT:=YS hc
 have C2:Hid (∀w' dO bT,ae w w'->bz w' dO (aY a)->CB 70 #[.slice dO (aY a).length bT,.int .i64 size] w' (.tuple #[.string ⟨#[]⟩,.int .i64 3])):=λw' dO bT h8 h9=>by
  have:=Ay (aY a) size dO bT w' h9 (λi=>by
   by_cases hi:i<(aY a).length
   ·have e:VA (aY a) i=(aY a)[i]:=by simp[VA,hi]
    rw[e];exact nt (hT.2 _ (gM hi)) (by decide)
   ·have e:VA (aY a) i=⟨#[]⟩:=by simp[VA,hi]
    rw[e];exact Nat.zero_le _) (hM.below h8)
  have eE:mP (aY a) size=3:=by unfold mP;rw[Ad hc,ab (by decide),ab hz]
  have eD:XN (aY a) size=⟨#[]⟩:=by unfold XN;rw[eE,ab (by decide)]
  rw[eE,eD]at this;exact this
 have hQ:Hid (∀w',ae w w'->ah w VC 3 (.returned (.tuple #[.agg #[.slice none 0 0,.slice none 0 0],.int .i64 3])) w'):=λw' h9=>ZC h9
 generalize ah w VC 3=Q at*;unfold jq at C1;rw[hc]at C1;unfold av at C1 |-
 generalize aY a=TX at*;generalize a.aa.length=D at*;generalize a.files.length=N at*;clear h hs hM hc hz hT;go_enter func35,ntmps35
 go_wp2_with fail
 refine(C1.out _ (Fr.start w _ _).b).mono ?_;rintro e w1 ⟨dO,bT,L,rfl,_,de,hLx,_,G1⟩;have nU:=hLx (by trivial);subst nU;have F1:=(Fr.start w _ _).next G1;clear G1 hLx;obtain⟨b,a0,a1,r0,r1,z0,z1,hz⟩:=id F1;have qF:=C2.out w1 dO bT b (bE.sl de);go_wp2_with fail
 refine qF.mono ?_;rintro e w2 ⟨rfl,G2⟩;have F2:=F1.next G2;clear b a0 a1 r0 r1 z0 z1 hz;obtain⟨b,a0,a1,r0,r1,z0,z1,hz⟩:=id F2;go_wp2_with fail
 rw[F2.zero];exact bodyPost_ret (v:=.tuple #[.agg #[.slice none 0 0,.slice none 0 0],.int .i64 3]) (by simp[results,results35,go_sem,F2.r0,F2.r1]) rfl (hQ.out _ F2.b)
theorem RF(ad af:Option Addr)(cd cf:Nat)(a:Ar.A)(size:Int)(w:World)(h:bo w ad af a)(hs:ao a)(hM:Mx w)(hc:Vz a=0)(hz:0<=size/\size<=256)(h4:a.aa.length=4) :
 Calls prog 35 #[av ad cd af cf a,.int .i64 size] w λe w'=>ah w VC 2 e w':=by
 have C1:=Za λw' (h9:ae w w')=>oW ad af cd cf a w' (h.below h9) hs
 have hT:=YS hc
 have C2:Hid (∀w' dO bT,ae w w'->bz w' dO (aY a)->CB 70 #[.slice dO (aY a).length bT,.int .i64 size] w' (.tuple #[.string (Wq (aY a) size.toNat),.int .i64 0])):=λw' dO bT h8 h9=>by
  have:=Ay (aY a) size dO bT w' h9 (λi=>by
   by_cases hi:i<(aY a).length
   ·have e:VA (aY a) i=(aY a)[i]:=by simp[VA,hi]
    rw[e];exact nt (hT.2 _ (gM hi)) (by decide)
   ·have e:VA (aY a) i=⟨#[]⟩:=by simp[VA,hi]
    rw[e];exact Nat.zero_le _) (hM.below h8)
  have eE:mP (aY a) size=0:=by unfold mP;rw[Ad hc,ab (by decide),ax hz]
  have eD:XN (aY a) size=Wq (aY a) size.toNat:=by unfold XN;rw[ax eE]
  rw[eE,eD]at this;exact this
 have hQ:Hid (∀w',ae w w'->ah w VC 2 (.returned (.tuple #[.agg #[.slice none 0 0,.slice none 0 0],.int .i64 2])) w'):=λw' h9=>ZC h9
 generalize ah w VC 2=Q at*;unfold jq at C1;rw[hc]at C1;unfold av at C1 |-
 generalize Wq (aY a) size.toNat=X at*;generalize aY a=TX at*;rw[h4]at C1 |-
 generalize a.files.length=N at*;clear h hs hM hc hz hT h4;go_enter func35,ntmps35
 go_wp2_with fail
 refine(C1.out _ (Fr.start w _ _).b).mono ?_;rintro e w1 ⟨dO,bT,L,rfl,_,de,hLx,_,G1⟩;have nU:=hLx (by trivial);subst nU;have F1:=(Fr.start w _ _).next G1;clear G1 hLx;obtain⟨b,a0,a1,r0,r1,z0,z1,hz⟩:=id F1;have qF:=C2.out w1 dO bT b (bE.sl de);go_wp2_with fail
 refine qF.mono ?_;rintro e w2 ⟨rfl,G2⟩;have F2:=F1.next G2;clear b a0 a1 r0 r1 z0 z1 hz;obtain⟨b,a0,a1,r0,r1,z0,z1,hz⟩:=id F2;go_wp2_with fail
 rw[F2.zero];exact bodyPost_ret (v:=.tuple #[.agg #[.slice none 0 0,.slice none 0 0],.int .i64 2]) (by simp[results,results35,go_sem,F2.r0,F2.r1]) rfl (hQ.out _ F2.b)
theorem RG(ad af:Option Addr)(cd cf:Nat)(a:Ar.A)(size:Int)(w:World)(h:bo w ad af a)(hs:ao a)(hM:Mx w)(hE:V6 a size=0) :
 Calls prog 35 #[av ad cd af cf a,.int .i64 size] w λe w'=>ah w ⟨V9 a size,a.files.map (VU a size)⟩ 0 e w':=by
 obtain⟨hc,mQ,mR,h4⟩:=vF hE
 have hz:0<=size/\size<=256:=⟨mQ,mR⟩
 obtain⟨i0,hi,hz0,hz1,hz2⟩:=info_parts (P:=prog) (e:=9) (z:=.string ⟨#[]⟩) (size:=1) (bytes:=16) (by kernel_rfl);obtain⟨m1,m2,m3⟩:=Zj.1 (VV.1 hc).1;have C1:=Za λw' (h9:ae w w')=>oW ad af cd cf a w' (h.below h9) hs
 have hT:=YS hc
 have C2:Hid (∀w' dO bT,ae w w'->bz w' dO (aY a)->CB 70 #[.slice dO (aY a).length bT,.int .i64 size] w' (.tuple #[.string (Wq (aY a) size.toNat),.int .i64 0])):=λw' dO bT h8 h9=>by
  have:=Ay (aY a) size dO bT w' h9 (λi=>by
   by_cases hi:i<(aY a).length
   ·have e:VA (aY a) i=(aY a)[i]:=by simp[VA,hi]
    rw[e];exact nt (hT.2 _ (gM hi)) (by decide)
   ·have e:VA (aY a) i=⟨#[]⟩:=by simp[VA,hi]
    rw[e];exact Nat.zero_le _) (hM.below h8)
  have eE:mP (aY a) size=0:=by unfold mP;rw[Ad hc,ab (by decide),ax hz]
  have eD:XN (aY a) size=Wq (aY a) size.toNat:=by unfold XN;rw[ax eE]
  rw[eE,eD]at this;exact this
 have C6:=Za λw' (h9:ae w w')=>sK ad af cd cf a w' (h.below h9) hs m1 m2
 have hmr:=zZ hE;have hrl:(V9 a size).length=a.aa.length+1:=by unfold V9;rw[List.length_append];rfl
 have CP:Hid (∀w' jX lU ph b7 m,m<a.files.length->bz w' jX (V9 a size)->CB 65 #[.agg #[.slice jX (a.aa.length+1) lU,.slice ph a.files.length b7],.string (Nm a.files m).name,.string (VA (aY a) m),.int .i64 ((a.aa.length:Int)+1)] w' (.tuple #[.agg #[.string (VU a size (Nm a.files m)).name,.int .i64 (VU a size (Nm a.files m)).dict,.int .i64 (VU a size (Nm a.files m)).size,.int .i64 (VU a size (Nm a.files m)).sum,.string (VU a size (Nm a.files m)).blk],.int .i64 0])):=λw' jX lU ph b7 m hm hx=>by
  have hmem:Nm a.files m∈a.files:=by rw[eP hm];exact gM hm
  have e:VA (aY a) m=WX a.aa (Nm a.files m):=by unfold aY;simp[VA,Nm,hm]
  have:=zI jX ph lU b7 ⟨V9 a size,a.files⟩ (Nm a.files m).name (VA (aY a) m) ((a.aa.length:Int)+1) w' hx (by show(V9 a size).length<=4;omega) (XJ hmr _) (by show VY (V9 a size) _=true;unfold VY;rw[hrl];exact al ⟨by omega,by omega⟩) (by rw[e];exact YP hc hmem) (hs.nm m);unfold av at this;simp only[hrl]at this;rw[e]at this |-
  exact this
 have HQ:Hid (∀v1 v2 w',w'.ownsRow w.heap.size 9 1 v1 (a.aa.length+1) (a.aa.map Value.string++[.string (Wq (aY a) size.toNat)])->w'.ownsRow w.heap.size 73 5 v2 a.files.length (aw (a.files.map (VU a size)))->(∀j,v1.ownBlock=some j->v2.ownBlock≠some j)->ae w w'->ah w ⟨V9 a size,a.files.map (VU a size)⟩ 0 (.returned (.tuple #[.agg #[v1,v2],.int .i64 0])) w'):=λv1 v2 w' h1 h2 h3 h4=>⟨v1,v2,rfl,⟨by
  show w'.ownsRow _ _ _ _ (V9 a size).length ((V9 a size).map Value.string);have e:(V9 a size).map Value.string=a.aa.map Value.string++[.string (Wq (aY a) size.toNat)]:=by unfold V9;rw[List.map_append];rfl
  rw[hrl,e];exact h1,by show w'.ownsRow _ _ _ _ (a.files.map (VU a size)).length _;rw[List.length_map];exact h2,h3⟩,h4⟩
 generalize ah w ⟨V9 a size,a.files.map (VU a size)⟩ 0=Q at*
 have tz:Hid (∀lo w' ad' cap',w'.ownsRow lo 9 1 (.slice ad' (a.aa.length+1) cap') (a.aa.length+1) (a.aa.map Value.string++[.string (Wq (aY a) size.toNat)])->bz w' ad' (V9 a size)):=λlo w' ad' cap' h1=>by
  have e:(V9 a size).map Value.string=a.aa.map Value.string++[.string (Wq (aY a) size.toNat)]:=by unfold V9;rw[List.map_append];rfl
  rw[<-hrl,<-e]at h1;obtain⟨qE,cap2,e2,_,h5⟩:=qk h1;simp only[Value.slice.injEq]at e2;obtain⟨rfl,_,rfl⟩:=e2;exact bE.sl h5
 have HI:Hid (∀m,m<a.files.length->(Xh a size m).length=a.files.length/\Nm (Xh a size m) m=Nm a.files m/\aw (Xh a size (m+1))=aw ((Xh a size m).take m++VU a size (Nm a.files m) :: (Xh a size m).drop (m+1))):=λm hm=>⟨Qk (nL hm),(aaN hm).1,by rw[(aaN hm).2]⟩
 have s8:Hid (aw (Xh a size a.files.length)=aw (a.files.map (VU a size))):=by show _=_;rw[Qm]
 have HA:Hid (∀lo w' v1 v2,aD lo w' v1 v2 a->w'.ownsRow lo 9 1 v1 a.aa.length (a.aa.map Value.string)/\w'.ownsRow lo 73 5 v2 a.files.length (aw (Xh a size 0))/\(∀j,v1.ownBlock=some j->v2.ownBlock≠some j)):=λlo w' v1 v2 h9=>⟨h9.o1,by rw[Ql];exact h9.o2,h9.ne⟩
 have mS:Hid ((aY a).length=a.files.length):=by show _=_;unfold aY;rw[List.length_map]
 unfold jq at C1;rw[hc]at C1;unfold av at C1 C6 |-
 generalize RH:aY a=TX at*;generalize Az:Wq TX size.toNat=X at*;have mB:=Za Az
 have xz:X.size<=256:=by
  have:=(Z7 TX size.toNat).most;rw[Az]at this;omega
 clear Az RH;generalize a.aa.map Value.string=XS at*;clear h hs hM hc hz hT hmr hrl m3 hE;generalize a.aa.length=D at*;generalize a.files.length=N at*;have hDi:(D:Int)<=4:=by omega
 have hNi:(N:Int)<=12:=by omega
 have d4:((D:Int)==4)=false:=by simp;omega
 have sr:decide ((D:Int)=4)=false:=dF (by omega);have RI:¬(D:Int)=4:=by omega
 go_enter func35,ntmps35
 go_wp2_with fail
 refine(C1.out _ (Fr.start w _ _).b).mono ?_;rintro e w1 ⟨dO,bT,L,rfl,_,de,hLx,_,G1⟩;have nU:=hLx (by trivial);subst nU;have F1:=(Fr.start w _ _).next G1;clear G1 hLx C1;have hsl:=bE.sl de;obtain⟨b,a0,a1,r0,r1,z0,z1,hz⟩:=id F1;have qF:=C2.out w1 dO bT b hsl;go_wp2_with fail
 refine qF.mono ?_;rintro e w2 ⟨rfl,G2⟩;have F2:=F1.next G2
 have HX:Hid (∀w',ae w2 w'->∀m,m<N->∃b off,dO=some ⟨b,off,none⟩/\b<w2.heap.size/\w'.cell? ⟨b,off+m,none⟩=some (.string (VA L m))):=λw' h9 m hm=>by
  obtain⟨b,off,e1,e2,e3⟩:=(hsl.below G2).at (i:=m) (by rw[mS.out];exact hm)
  exact⟨b,off,e1,e2,(h9.cell (p:=⟨b,off+m,none⟩) e2).trans e3⟩
 clear b a0 a1 r0 r1 z0 z1 hz C2 qF hsl de G2 F1;obtain⟨b,a0,a1,r0,r1,z0,z1,hz⟩:=id F2;go_wp2_with fail
 refine(C6.out _ F2.b).mono ?_;rintro e w6 ⟨v1,v2,rfl,O6,G6⟩;have F6:=F2.next G6;obtain⟨o1,o2,o3⟩:=HA.out _ _ _ _ O6;have hlo:=F2.hz;have hl0:=G6.size;have GQ:=Za λw' (h9:Below w2.heap.size w6 w') m (hm:m<N)=>HX.out w' (G6.trans h9) m hm
 generalize w2.heap.size=lo at o1 o2 hlo hl0 GQ;clear G6 O6 HA b a0 a1 r0 r1 z0 z1 hz C6 HX F2;obtain⟨p1,q1,rfl,_⟩:=Zq o1;obtain⟨p2,q2,rfl,_⟩:=Zq o2;obtain⟨b,a0,a1,r0,r1,z0,z1,hz⟩:=id F6;have cm:w.heap.size<w6.heap.size:=by omega
 have S0:cx w6 (w6.alloc (.cells #[.slice p1 D q1,.slice p2 N q2] 35 (0,0))) w6.heap.size lo (.slice p1 D q1) (.slice p2 N q2) D N XS (aw (Xh a size 0)) :=
  ⟨cN _ _ _ 0,cN _ _ _ 1,fN _ _ _ _ rfl,fN _ _ _ _ rfl,o1.alloc _,o2.alloc _,o3,λe=>by have:=(o1.lt _ e).2;omega,λe=>by have:=(o2.lt _ e).2;omega,hl0,by simp,(bR _ _).alloc hl0 _⟩
 clear o1 o2 o3
 have hnw:∀j u,[Value.string X][j]?=some u->((w6.alloc (.cells #[.slice p1 D q1,.slice p2 N q2] 35 (0,0))).alloc (.cells #[.string X] 9 (0,0))).cell? ((⟨w6.heap.size+1,0,none⟩:Addr).add j)=some u:=by
  intro j u hj;rw[oy,(gK w6 _ #[.string X] _ _).2];simpa using hj
 go_wp2_with (first
  |(at_builtin;refine kd _ rfl _ _ 32 rfl lo 9 i0 (.string ⟨#[]⟩) 1 16 je hi hz0 hz1 hz2 rfl (by decide) (.slice p1 D q1) _ _ rfl (S0.o1.alloc _) ⟨w6.heap.size+1,0,none⟩ 1 1 [.string X] rfl rfl hnw (by simp[Value.oneCell']) (by decide) (by unfold maxLen;omega) (by omega) (by simp;omega) _ rfl ?_;intro g cp w5 hown5 aB bc fI;obtain⟨⟨⟨mC,qq2⟩,S5⟩,K5⟩:=S0.gL aB hown5 bc;have c15:=S5.c1;clear aB hown5 bc fI K5)
  |fail)
 clear S0 hnw c15 mC qq2 b a0 a1 r0 r1 z0 z1 hz;generalize w5.setCell _ _=wq at*;generalize w6.heap.size=C at*;go_loopw [47] (λi wr=>∃m:Nat,m<=N/\i=.int .i64 m/\cx w6 wr C lo (.slice (some ⟨g,0,none⟩) (D+1) cp) (.slice p2 N q2) (D+1) N (XS++[.string X]) (aw (Xh a size m))) (λi _=>N-(intOf i).toNat)
 case atStart=>exact⟨0,by omega,rfl,S5⟩
 case round =>
  clear S5;obtain⟨m,hm2,rfl,S6⟩:=hrel;have F7:=F6.keep S6.bel hlo;by_cases hlt:m<N
  ·have d2:=al (by omega:(m:Int)<(N:Int));have eJ:=al (by omega:m<N);have jQ:(m:Int)<(N:Int):=by omega
   have hmL:(m:Int)<(L.length:Int):=by rw[mS.out];exact jQ
   have RJ:m<L.length:=by rw[mS.out];exact hlt
   rcases S6.o2.2 with⟨_,h0⟩|⟨g2,cap2,bY,e,_⟩
   ·omega
   simp only[Value.slice.injEq]at e;obtain⟨rfl,_,rfl⟩:=e;obtain⟨iW,GR,hIs⟩:=HI.out m hlt;have iB:=Za hIs;have hat:=FT (i:=m) (fs:=Xh a size m) (w:=wr) (lo:=lo) (g:=g2) (cap:=q2) (by rw[iW];exact S6.o2) (by omega);rw[GR]at hat;have x0:wr.cell? ⟨g2,m*5,none⟩=some (.string (Nm a.files m).name):=hat.1 0 (by omega);have x1:wr.cell? ⟨g2,m*5+1,none⟩=some (.int .i64 (Nm a.files m).dict):=hat.1 1 (by omega);have x2:wr.cell? ⟨g2,m*5+2,none⟩=some (.int .i64 (Nm a.files m).size):=hat.1 2 (by omega);have x3:wr.cell? ⟨g2,m*5+3,none⟩=some (.int .i64 (Nm a.files m).sum):=hat.1 3 (by omega);have x4:wr.cell? ⟨g2,m*5+4,none⟩=some (.string (Nm a.files m).blk):=hat.1 4 (by omega);have hg2:=(S6.o2.lt g2 rfl).2;have y:=hat.2;have GS:=λw' h9=>CP.out w' (some ⟨g,0,none⟩) cp (some ⟨g2,0,none⟩) q2 m hlt h9
   have qG:Hid (∀wk,cx w6 wk C lo (.slice (some ⟨g,0,none⟩) (D+1) cp) (.slice (some ⟨g2,0,none⟩) N q2) (D+1) N (XS++[.string X]) (aw (Xh a size m))->cx w6 (fh wk g2 (m*5) (.string (VU a size (Nm a.files m)).name) (.int .i64 (VU a size (Nm a.files m)).dict) (.int .i64 (VU a size (Nm a.files m)).size) (.int .i64 (VU a size (Nm a.files m)).sum) (.string (VU a size (Nm a.files m)).blk)) C lo (.slice (some ⟨g,0,none⟩) (D+1) cp) (.slice (some ⟨g2,0,none⟩) N q2) (D+1) N (XS++[.string X]) (aw (Xh a size (m+1)))):=λwk h9=>by
    rw[<-iW]at h9;have:=cx.ik (VU a size (Nm a.files m)) h9 (i:=m) (by omega);rw[iW,<-hIs]at this;exact this
   have htx:=tz.out lo wr (some ⟨g,0,none⟩) cp S6.o1;clear hIs GR iW hat iB;generalize (VU a size (Nm a.files m)).name=n0 at*;generalize (VU a size (Nm a.files m)).dict=n1 at*;generalize (VU a size (Nm a.files m)).size=n2 at*;generalize (VU a size (Nm a.files m)).sum=n3 at*;generalize (VU a size (Nm a.files m)).blk=n4 at*;generalize (Nm a.files m).name=f0 at*;generalize (Nm a.files m).dict=f1 at*;generalize (Nm a.files m).size=f2 at*;generalize (Nm a.files m).sum=f3 at*;generalize (Nm a.files m).blk=f4 at*;go_wp2_with fail
   have S7:=S6.below ((bR _ _).alloc (nl _) (.cells #[.string f0,.int .i64 f1,.int .i64 f2,.int .i64 f3,.string f4] 73 (0,0)));have hbx:(wr.alloc (.cells #[.string f0,.int .i64 f1,.int .i64 f2,.int .i64 f3,.string f4] 73 (0,0))).cell? ⟨wr.heap.size,0,none⟩=some (.string f0):=cN _ _ _ 0;have tA:=htx.below ((bR _ _).alloc (nl _) (.cells #[.string f0,.int .i64 f1,.int .i64 f2,.int .i64 f3,.string f4] 73 (0,0)));have k:=λ(p:Addr) (hp:p.block<wr.heap.size)=>gW wr (.cells #[.string f0,.int .i64 f1,.int .i64 f2,.int .i64 f3,.string f4] 73 (0,0)) p hp
   have j0:=(k ⟨g2,m*5,none⟩ hg2).trans x0;have j1:=(k ⟨g2,m*5+1,none⟩ hg2).trans x1;have j2:=(k ⟨g2,m*5+2,none⟩ hg2).trans x2;have j3:=(k ⟨g2,m*5+3,none⟩ hg2).trans x3;have j4:=(k ⟨g2,m*5+4,none⟩ hg2).trans x4;have eB:∀o,(wr.alloc (.cells #[.string f0,.int .i64 f1,.int .i64 f2,.int .i64 f3,.string f4] 73 (0,0))).frozen? ⟨g2,o,none⟩=false:=λo=>by rw[World.frozen?_alloc_past _ _ _ hg2];exact y o
   have jY:g2<(wr.alloc (.cells #[.string f0,.int .i64 f1,.int .i64 f2,.int .i64 f3,.string f4] 73 (0,0))).heap.size:=by simp;omega
   generalize (wr.alloc (.cells #[.string f0,.int .i64 f1,.int .i64 f2,.int .i64 f3,.string f4] 73 (0,0)))=wP at*;generalize wr.heap.size=P at*;obtain⟨bt,ot,rfl,hbt,hct⟩:=GQ.out wP S7.bel m hlt;have c0:=S7.c0;have c1:=S7.c1;clear x0 x1 x2 x3 x4 y k S6 htx F7;generalize VA L m=tm at*;have RL:=GS wP.drew (tA.below ((bR _ _).drew))
   have HK:Hid (∀wk,ae wP.drew wk->cx w6 wk C lo (.slice (some ⟨g,0,none⟩) (D+1) cp) (.slice (some ⟨g2,0,none⟩) N q2) (D+1) N (XS++[.string X]) (aw (Xh a size m))/\wk.cell? ⟨g2,m*5,none⟩=some (.string f0)/\wk.cell? ⟨g2,m*5+1,none⟩=some (.int .i64 f1)/\wk.cell? ⟨g2,m*5+2,none⟩=some (.int .i64 f2)/\wk.cell? ⟨g2,m*5+3,none⟩=some (.int .i64 f3)/\wk.cell? ⟨g2,m*5+4,none⟩=some (.string f4)/\∀o,wk.frozen? ⟨g2,o,none⟩=false):=λwk Gk=>by
    have G9:=Below.trans ((bR wP.heap.size wP).drew) Gk;exact⟨S7.below G9,(G9.cell (p:=⟨g2,m*5,none⟩) jY).trans j0,(G9.cell (p:=⟨g2,m*5+1,none⟩) jY).trans j1,(G9.cell (p:=⟨g2,m*5+2,none⟩) jY).trans j2,(G9.cell (p:=⟨g2,m*5+3,none⟩) jY).trans j3,(G9.cell (p:=⟨g2,m*5+4,none⟩) jY).trans j4,λo=>(G9.frozen (p:=⟨g2,o,none⟩) jY).trans (eB o)⟩
   have AA:=S7.hb;have AB:=S7.hC;have ki:=(S7.o2.lt g2 rfl).1;have tB:bt<wP.heap.size:=by omega
   have GU:P<wP.heap.size:=cL wP _ hbx
   have hS0:Hid (∀wk,ae wP.drew wk->wk.cell? ⟨C,0,none⟩=some (.slice (some ⟨g,0,none⟩) (D+1) cp)/\wk.cell? ⟨C,1,none⟩=some (.slice (some ⟨g2,0,none⟩) N q2)/\wk.cell? ⟨P,0,none⟩=some (.string f0)/\wk.cell? ⟨bt,ot+m,none⟩=some (.string tm)):=λwk Gk=>by
    have G9:=Below.trans ((bR wP.heap.size wP).drew) Gk;exact⟨(G9.cell (p:=⟨C,0,none⟩) AA).trans c0,(G9.cell (p:=⟨C,1,none⟩) AA).trans c1,(G9.cell (p:=⟨P,0,none⟩) GU).trans hbx,(G9.cell (p:=⟨bt,ot+m,none⟩) tB).trans hct⟩
   have hne1:C≠g2:=λe=>S7.a2 (show some g2=some C by rw[e])
   have hS5:Hid (∀wk,ae wP.drew wk->(λw9=>w9.cell? ⟨C,0,none⟩=some (.slice (some ⟨g,0,none⟩) (D+1) cp)/\w9.cell? ⟨C,1,none⟩=some (.slice (some ⟨g2,0,none⟩) N q2)/\w9.cell? ⟨P,0,none⟩=some (.string f0)/\w9.cell? ⟨bt,ot+m,none⟩=some (.string tm)) (fh wk g2 (m*5) (.string n0) (.int .i64 n1) (.int .i64 n2) (.int .i64 n3) (.string n4))):=λwk Gk=>by
    obtain⟨e0,e1,e2,e3⟩:=hS0.out wk Gk;have gr:=vA wk g2 (m*5) (.string n0) (.int .i64 n1) (.int .i64 n2) (.int .i64 n3) (.string n4);exact⟨Zg gr e0 (by simpa using hne1),Zg gr e1 (by simpa using hne1),Zg gr e2 (by simp;omega),Zg gr e3 (by simp;omega)⟩
   unfold fh at hS5;simp only at hS5;clear S7 j0 j1 j2 j3 j4 eB tA GS hg2 hct hbt tB hbx c0 c1 AA GU AB ki;go_region_held3 (λwk=>wk.cell? ⟨C,0,none⟩=some (.slice (some ⟨g,0,none⟩) (D+1) cp)/\wk.cell? ⟨C,1,none⟩=some (.slice (some ⟨g2,0,none⟩) N q2)/\wk.cell? ⟨P,0,none⟩=some (.string f0)/\wk.cell? ⟨bt,ot+m,none⟩=some (.string tm))
    (first|(exact hS0.out _ (bR _ _))|(exact hS0.out _ Gk)|(exact hS5.out _ Gk))
    (first
     |(go_at_call 65;refine RL.mono ?_;rintro e wk ⟨rfl,Gk⟩;obtain⟨Sk,l0,l1,l2,l3,l4,lf⟩:=HK.out wk Gk;have lf0:=lf (m*5);have lf1:=lf (m*5+1);have lf2:=lf (m*5+2);have lf3:=lf (m*5+3);have lf4:=lf (m*5+4)))
   all_goals
    have S8:=qG.out wk Sk;unfold fh at S8;go_wp2_with fail
    go_roundw
    case rel=>exact⟨m+1,by omega,by go_num,S8⟩
    case measure=>simp[intOf];omega
  ·obtain rfl:m=N:=by omega
   have d1:decide ((m:Int)<(m:Int))=false:=by simp
   rw[s8.out]at S6;obtain⟨b,a0,a1,r0,r1,z0,z1,hz⟩:=id F7;obtain⟨Bz,eS,eU,gd,gw⟩:=lP b S6.o1 S6.o2 hlo r0 r1;have iU:=S6.ne;have c0:=S6.c0;have c1:=S6.c1;have hC2:=S6.hb;have hzw:w.heap.size<wr.heap.size:=by omega
   clear S6 F7;go_wp2_with fail
   generalize (wr.setCell _ _).setCell _ _=wz at*;exact bodyPost_ret (v:=.tuple #[.agg #[.slice (some ⟨g,0,none⟩) (D+1) cp,.slice p2 m q2],.int .i64 0]) (by simp[results,results35,go_sem,gd,gw]) rfl (HQ.out _ _ _ eS eU iU Bz)
theorem RM(ad af:Option Addr)(cd cf:Nat)(a:Ar.A)(size:Int)(w:World)(h:bo w ad af a)(hs:ao a)(hM:Mx w) :
 Calls prog 35 #[av ad cd af cf a,.int .i64 size] w λe w'=>ah w (WL a size) (V6 a size) e w':=by
 by_cases hE:V6 a size=0
 ·rw[zY hE,hE];exact RG ad af cd cf a size w h hs hM hE
 ·have e:WL a size=VC:=by unfold WL;rw[ab hE]
  rw[e];unfold V6 at hE |-
  by_cases hc:Vz a=0
  ·rw[ab (λh9=>h9 hc)]at hE |-
   by_cases hz:0<=size/\size<=256
   ·rw[ax hz]at hE |-
    by_cases h4:a.aa.length=4
    ·rw[ax h4];exact RF ad af cd cf a size w h hs hM hc hz h4
    ·rw[ab h4]at hE;exact absurd rfl hE
   ·rw[ab hz];exact RD ad af cd cf a size w h hs hM hc hz
  ·rw[ax hc];exact RC ad af cd cf a size w h hs hc
open Dk (ba)
structure GV(b i:Nat)(c:Value)(w:World):Prop where
 k0:w.cell? ⟨b,i,none⟩=some c
structure RN(b:Nat)(s t:ByteArray)(d:Nat)(w:World):Prop where
 k0:w.cell? ⟨b,1,none⟩=some (.string s)
 k1:w.cell? ⟨b,2,none⟩=some (.string t)
 k2:w.cell? ⟨b,4,none⟩=some (.int .i64 d)
def eW(p:Nat)(line:List UInt8)(w:World)(Q:Ending->World->Prop):Prop:=Calls prog 18 #[.pointer (some ⟨p,0,none⟩),.string (ba line)] w Q
section
variable {B p:Nat} {w:World} {v:Value} {l:List UInt8} {x y:Value} {a:Ar.A} {line:List UInt8}
theorem RP(n t:List UInt8)(d:Nat)(h:Ck B p w v l x y a)(hc:Vz a=0)(hT:Gl w)(hl:line.length<=100000)(ho:VW line=some (.put n t d))(hn:(ba n).size<=140737488355328)(ht:(ba t).size<=140737488355328) :
 eW p line w (ZJ B p w v l (if aO a (ba n) (ba t) d=0 then bW a (ba n) (ba t) d else a) (if aO a (ba n) (ba t) d=0 then [111,107] else []) (aO a (ba n) (ba t) d)):=by
 unfold eW
 have CR:CB 31 #[.string (ba line)] w (.tuple #[.agg #[.string ⟨#[112,117,116]⟩,.string (ba n),.string (ba t),.int .i64 0,.int .i64 (d:Nat)],.bool true]):=by
  have C:=lS line w hl hT.mx;unfold ZG at C;rw[ho]at C;exact C
 have hS:=Wy hc;obtain⟨ad,cd,af,cf,rfl,rfl,hV⟩:=h.ar.slices;have CP:=Za λw' (h9:ae w w')=>PF ad af cd cf a (ba n) (ba t) d w' (hV.below h9) hS hn ht
 have HK:Hid (∀w',ae w w'->Ck B p w' v l (.slice ad a.aa.length cd) (.slice af a.files.length cf) a):=λw' h9=>h.next h9
 have hlt:=h.lt;have bd:∀g,v.ownBlock=some g->g<w.heap.size:=λg hg=>(h.own.lt g hg).2
 unfold av at CP;unfold ZJ;clear h hT hV hc hS ho hn ht;generalize aO a (ba n) (ba t) d=E at*;generalize bW a (ba n) (ba t) d=A9 at*;generalize jL:(if E=0 then A9 else a)=A8 at*;generalize pj:(if E=0 then([111,107]:List UInt8) else [])=t8 at*;generalize ba n=s0 at*;generalize ba t=s1 at*;generalize a.aa.length=D at*;generalize a.files.length=N at*;go_enter func18,ntmps18
 go_wp2_with fail
 refine mo CR λw1 G1=>?_
 have F:=FB.new w1 59 (.string ⟨#[112,117,116]⟩) (.string s0) (.string s1) (.int .i64 0) (.int .i64 (d:Nat));have B2:=ag G1 (Zb w1 (.cells #[.string ⟨#[112,117,116]⟩,.string s0,.string s1,.int .i64 0,.int .i64 (d:Nat)] 59 (0,0)));have K2:=HK.out _ B2;have c0:=F.c 0 (by omega);simp only[reduceIte,Nat.reduceEqDiff]at c0;go_wp2_with fail
 generalize (w1.alloc (.cells #[.string ⟨#[112,117,116]⟩,.string s0,.string s1,.int .i64 0,.int .i64 (d:Nat)] 59 (0,0)))=w2 at*;have mu:w1.heap.size≠p:=by have:=G1.size;omega
 have cj:Hid (∀w',On p w2 w'->RN w1.heap.size s0 s1 d w'):=λw' h9=>⟨(F.on (p:=p) h9 mu).c 1 (by omega),(F.on (p:=p) h9 mu).c 2 (by omega),(F.on (p:=p) h9 mu).c 4 (by omega)⟩
 have D0:=(bR w2.heap.size w2).drew;have K3:=K2.next D0;have c1:=K3.c1;have c2:=K3.c2;have Od:=On.of (p:=p) D0;clear F c0 G1;refine wp_region_held_drew (by kernel_rfl) (cj.out _ Od) (λhS=>?_);refine aE 0 18 (.pointer (some ⟨p,0,none⟩)) rfl (λw' ⟨k0,k1,k2⟩=>by go_simp) hS ?_;refine aE 1 17 (.pointer (some ⟨p,0,none⟩)) rfl (λw' ⟨k0,k1,k2⟩=>by go_simp) hS ?_;refine aE 2 16 (.pointer (some ⟨p,0,none⟩)) rfl (λw' ⟨k0,k1,k2⟩=>by go_simp) hS ?_;refine aE 3 15 (.pointer (some ⟨p,1,none⟩)) rfl (λw' ⟨k0,k1,k2⟩=>by go_simp) hS ?_;refine aE 5 14 (.pointer (some ⟨w1.heap.size,1,none⟩)) rfl (λw' ⟨k0,k1,k2⟩=>by go_simp) hS ?_;refine aE 6 13 (.string s0) rfl (λw' ⟨k0,k1,k2⟩=>by go_simp) hS ?_;refine aE 7 12 (.pointer (some ⟨w1.heap.size,2,none⟩)) rfl (λw' ⟨k0,k1,k2⟩=>by go_simp) hS ?_;refine aE 8 11 (.string s1) rfl (λw' ⟨k0,k1,k2⟩=>by go_simp) hS ?_;refine aE 9 10 (.pointer (some ⟨w1.heap.size,4,none⟩)) rfl (λw' ⟨k0,k1,k2⟩=>by go_simp) hS ?_;refine aE 10 9 (.int .i64 (d:Nat)) rfl (λw' ⟨k0,k1,k2⟩=>by go_simp) hS ?_;refine aR 4 8 rfl λK hK=>?_
 go_simp
 refine hK.out _ _ hS (λ_=>?_);clear hK;refine aR 11 7 rfl λK hK=>?_
 go_simp
 go_at_call 33
 have B3:=ag B2 D0;refine(CP.out _ B3).mono ?_;intro e w3 A3;obtain⟨cP,cQ,af3,cf3,rfl,O3,G3⟩:=A3.own;have Oe:=Od.trans (On.of G3);have K4:=K3.next G3;have B4:=ag B3 G3;have hz2:=B2.size;have hzd:=D0.size;have hS3:=cj.out _ Oe;generalize w2.drew=tC at*;have CC:=vP B p tC.heap.size w3 v l _ _ a A9 E cP af3 _ _ cQ cf3 K4 O3 (by omega) (λg hg=>by have:=bd g hg;omega);rw[jL,pj]at CC;generalize A9.aa.length=D3 at*;generalize A9.files.length=N3 at*;refine hK.out _ _ hS3 (λ_=>?_);clear hK A3 c1 c2;refine aE 12 6 (.agg #[.slice cP D3 cQ,.slice af3 N3 cf3]) rfl (λw' ⟨k0,k1,k2⟩=>by go_simp) hS3 ?_;refine aE 13 5 (.int .i64 E) rfl (λw' ⟨k0,k1,k2⟩=>by go_simp) hS3 ?_;refine aR 14 4 rfl λK hK=>?_
 go_simp
 go_at_call 32
 refine mo CC ?_;rintro w4 ⟨O4,x4,y4,K5⟩;have hS4:=cj.out _ (Oe.trans O4);refine hK.out _ _ hS4 (λ_=>?_);clear hK;refine aE 15 3 (.string (ba t8)) rfl (λw' ⟨k0,k1,k2⟩=>by go_simp) hS4 ?_;refine aE 16 2 (.int .i64 E) rfl (λw' ⟨k0,k1,k2⟩=>by go_simp) hS4 ?_;refine aE 17 1 (.string (ba t8)) rfl (λw' ⟨k0,k1,k2⟩=>by go_simp) hS4 ?_;refine aR 18 0 rfl λK hK=>?_
 go_simp
 refine hK.out _ _ hS4 (λ_=>?_);clear hK;refine⟨by kernel_rfl,?_⟩;have O9:=(On.of (p:=p) B4).trans O4;clear hS4 hS3 hS cj Oe Od B4 B3 D0 O4 G3 O3 K4 K3;go_wp2_with fail
 go_ret2
 exact⟨rfl,O9,_,_,K5⟩
theorem RQ(n:List UInt8)(h:Ck B p w v l x y a)(hc:Vz a=0)(hT:Gl w)(hl:line.length<=100000)(ho:VW line=some (.drop n)) :
 eW p line w (ZJ B p w v l (if VE a (ba n)=0 then Wf a (ba n) else a) (if VE a (ba n)=0 then [111,107] else []) (VE a (ba n))):=by
 unfold eW
 have CR:CB 31 #[.string (ba line)] w (.tuple #[.agg #[.string ⟨#[100,114,111,112]⟩,.string (ba n),.string ⟨#[]⟩,.int .i64 0,.int .i64 0],.bool true]):=by
  have C:=lS line w hl hT.mx;unfold ZG at C;rw[ho]at C;exact C
 have hS:=Wy hc;obtain⟨ad,cd,af,cf,rfl,rfl,hV⟩:=h.ar.slices;have CP:=Za λw' (h9:ae w w')=>PU ad af cd cf a (ba n) w' (hV.below h9) hS
 have HK:Hid (∀w',ae w w'->Ck B p w' v l (.slice ad a.aa.length cd) (.slice af a.files.length cf) a):=λw' h9=>h.next h9
 have hlt:=h.lt;have bd:∀g,v.ownBlock=some g->g<w.heap.size:=λg hg=>(h.own.lt g hg).2
 unfold av at CP;unfold ZJ;clear h hT hV hc hS ho;generalize VE a (ba n)=E at*;generalize Wf a (ba n)=A9 at*;generalize jL:(if E=0 then A9 else a)=A8 at*;generalize pj:(if E=0 then([111,107]:List UInt8) else [])=t8 at*;generalize ba n=s0 at*;generalize a.aa.length=D at*;generalize a.files.length=N at*;go_enter func18,ntmps18
 go_wp2_with fail
 refine mo CR λw1 G1=>?_
 have F:=FB.new w1 59 (.string ⟨#[100,114,111,112]⟩) (.string s0) (.string ⟨#[]⟩) (.int .i64 0) (.int .i64 0);have B2:=ag G1 (Zb w1 (.cells #[.string ⟨#[100,114,111,112]⟩,.string s0,.string ⟨#[]⟩,.int .i64 0,.int .i64 0] 59 (0,0)));have K2:=HK.out _ B2;have c0:=F.c 0 (by omega);simp only[reduceIte,Nat.reduceEqDiff]at c0;go_wp2_with fail
 generalize (w1.alloc (.cells #[.string ⟨#[100,114,111,112]⟩,.string s0,.string ⟨#[]⟩,.int .i64 0,.int .i64 0] 59 (0,0)))=w2 at*;have mu:w1.heap.size≠p:=by have:=G1.size;omega
 have cj:Hid (∀w',On p w2 w'->GV w1.heap.size 1 (.string s0) w'):=λw' h9=>⟨(F.on (p:=p) h9 mu).c 1 (by omega)⟩
 have D0:=(bR w2.heap.size w2).drew;have K3:=K2.next D0;have c1:=K3.c1;have c2:=K3.c2;have Od:=On.of (p:=p) D0;clear F c0 G1;refine wp_region_held_drew (by kernel_rfl) (cj.out _ Od) (λhS=>?_);refine aE 0 14 (.pointer (some ⟨p,0,none⟩)) rfl (λw' ⟨k0⟩=>by go_simp) hS ?_;refine aE 1 13 (.pointer (some ⟨p,0,none⟩)) rfl (λw' ⟨k0⟩=>by go_simp) hS ?_;refine aE 2 12 (.pointer (some ⟨p,0,none⟩)) rfl (λw' ⟨k0⟩=>by go_simp) hS ?_;refine aE 3 11 (.pointer (some ⟨p,1,none⟩)) rfl (λw' ⟨k0⟩=>by go_simp) hS ?_;refine aE 5 10 (.pointer (some ⟨w1.heap.size,1,none⟩)) rfl (λw' ⟨k0⟩=>by go_simp) hS ?_;refine aE 6 9 (.string s0) rfl (λw' ⟨k0⟩=>by go_simp) hS ?_;refine aR 4 8 rfl λK hK=>?_
 go_simp
 refine hK.out _ _ hS (λ_=>?_);clear hK;refine aR 7 7 rfl λK hK=>?_
 go_simp
 go_at_call 34
 have B3:=ag B2 D0;refine(CP.out _ B3).mono ?_;intro e w3 A3;obtain⟨cP,cQ,af3,cf3,rfl,O3,G3⟩:=A3.own;have Oe:=Od.trans (On.of G3);have K4:=K3.next G3;have B4:=ag B3 G3;have hz2:=B2.size;have hzd:=D0.size;have hS3:=cj.out _ Oe;generalize w2.drew=tC at*;have CC:=vP B p tC.heap.size w3 v l _ _ a A9 E cP af3 _ _ cQ cf3 K4 O3 (by omega) (λg hg=>by have:=bd g hg;omega);rw[jL,pj]at CC;generalize A9.aa.length=D3 at*;generalize A9.files.length=N3 at*;refine hK.out _ _ hS3 (λ_=>?_);clear hK A3 c1 c2;refine aE 8 6 (.agg #[.slice cP D3 cQ,.slice af3 N3 cf3]) rfl (λw' ⟨k0⟩=>by go_simp) hS3 ?_;refine aE 9 5 (.int .i64 E) rfl (λw' ⟨k0⟩=>by go_simp) hS3 ?_;refine aR 10 4 rfl λK hK=>?_
 go_simp
 go_at_call 32
 refine mo CC ?_;rintro w4 ⟨O4,x4,y4,K5⟩;have hS4:=cj.out _ (Oe.trans O4);refine hK.out _ _ hS4 (λ_=>?_);clear hK;refine aE 11 3 (.string (ba t8)) rfl (λw' ⟨k0⟩=>by go_simp) hS4 ?_;refine aE 12 2 (.int .i64 E) rfl (λw' ⟨k0⟩=>by go_simp) hS4 ?_;refine aE 13 1 (.string (ba t8)) rfl (λw' ⟨k0⟩=>by go_simp) hS4 ?_;refine aR 14 0 rfl λK hK=>?_
 go_simp
 refine hK.out _ _ hS4 (λ_=>?_);clear hK;refine⟨by kernel_rfl,?_⟩;have O9:=(On.of (p:=p) B4).trans O4;clear hS4 hS3 hS cj Oe Od B4 B3 D0 O4 G3 O3 K4 K3;go_wp2_with fail
 go_ret2
 exact⟨rfl,O9,_,_,K5⟩
theorem RR(k:Nat)(h:Ck B p w v l x y a)(hc:Vz a=0)(hT:Gl w)(hl:line.length<=100000)(ho:VW line=some (.gx k)) :
 eW p line w (ZJ B p w v l (if V6 a k=0 then WL a k else a) (if V6 a k=0 then [111,107] else []) (V6 a k)):=by
 unfold eW
 have CR:CB 31 #[.string (ba line)] w (.tuple #[.agg #[.string ⟨#[116,114,97,105,110]⟩,.string ⟨#[]⟩,.string ⟨#[]⟩,.int .i64 0,.int .i64 (k:Nat)],.bool true]):=by
  have C:=lS line w hl hT.mx;unfold ZG at C;rw[ho]at C;exact C
 have hS:=Wy hc;obtain⟨ad,cd,af,cf,rfl,rfl,hV⟩:=h.ar.slices;have CP:=Za λw' (h9:ae w w')=>RM ad af cd cf a k w' (hV.below h9) hS (hT.mx.below h9)
 have HK:Hid (∀w',ae w w'->Ck B p w' v l (.slice ad a.aa.length cd) (.slice af a.files.length cf) a):=λw' h9=>h.next h9
 have hlt:=h.lt;have bd:∀g,v.ownBlock=some g->g<w.heap.size:=λg hg=>(h.own.lt g hg).2
 unfold av at CP;unfold ZJ;clear h hT hV hc hS ho;generalize V6 a k=E at*;generalize WL a k=A9 at*;generalize jL:(if E=0 then A9 else a)=A8 at*;generalize pj:(if E=0 then([111,107]:List UInt8) else [])=t8 at*;generalize a.aa.length=D at*;generalize a.files.length=N at*;go_enter func18,ntmps18
 go_wp2_with fail
 refine mo CR λw1 G1=>?_
 have F:=FB.new w1 59 (.string ⟨#[116,114,97,105,110]⟩) (.string ⟨#[]⟩) (.string ⟨#[]⟩) (.int .i64 0) (.int .i64 (k:Nat));have B2:=ag G1 (Zb w1 (.cells #[.string ⟨#[116,114,97,105,110]⟩,.string ⟨#[]⟩,.string ⟨#[]⟩,.int .i64 0,.int .i64 (k:Nat)] 59 (0,0)));have K2:=HK.out _ B2;have c0:=F.c 0 (by omega);simp only[reduceIte,Nat.reduceEqDiff]at c0;go_wp2_with fail
 generalize (w1.alloc (.cells #[.string ⟨#[116,114,97,105,110]⟩,.string ⟨#[]⟩,.string ⟨#[]⟩,.int .i64 0,.int .i64 (k:Nat)] 59 (0,0)))=w2 at*;have mu:w1.heap.size≠p:=by have:=G1.size;omega
 have cj:Hid (∀w',On p w2 w'->GV w1.heap.size 4 (.int .i64 (k:Nat)) w'):=λw' h9=>⟨(F.on (p:=p) h9 mu).c 4 (by omega)⟩
 have D0:=(bR w2.heap.size w2).drew;have K3:=K2.next D0;have c1:=K3.c1;have c2:=K3.c2;have Od:=On.of (p:=p) D0;clear F c0 G1;refine wp_region_held_drew (by kernel_rfl) (cj.out _ Od) (λhS=>?_);refine aE 0 14 (.pointer (some ⟨p,0,none⟩)) rfl (λw' ⟨k0⟩=>by go_simp) hS ?_;refine aE 1 13 (.pointer (some ⟨p,0,none⟩)) rfl (λw' ⟨k0⟩=>by go_simp) hS ?_;refine aE 2 12 (.pointer (some ⟨p,0,none⟩)) rfl (λw' ⟨k0⟩=>by go_simp) hS ?_;refine aE 3 11 (.pointer (some ⟨p,1,none⟩)) rfl (λw' ⟨k0⟩=>by go_simp) hS ?_;refine aE 5 10 (.pointer (some ⟨w1.heap.size,4,none⟩)) rfl (λw' ⟨k0⟩=>by go_simp) hS ?_;refine aE 6 9 (.int .i64 (k:Nat)) rfl (λw' ⟨k0⟩=>by go_simp) hS ?_;refine aR 4 8 rfl λK hK=>?_
 go_simp
 refine hK.out _ _ hS (λ_=>?_);clear hK;refine aR 7 7 rfl λK hK=>?_
 go_simp
 go_at_call 35
 have B3:=ag B2 D0;refine(CP.out _ B3).mono ?_;intro e w3 A3;obtain⟨cP,cQ,af3,cf3,rfl,O3,G3⟩:=A3.own;have Oe:=Od.trans (On.of G3);have K4:=K3.next G3;have B4:=ag B3 G3;have hz2:=B2.size;have hzd:=D0.size;have hS3:=cj.out _ Oe;generalize w2.drew=tC at*;have CC:=vP B p tC.heap.size w3 v l _ _ a A9 E cP af3 _ _ cQ cf3 K4 O3 (by omega) (λg hg=>by have:=bd g hg;omega);rw[jL,pj]at CC;generalize A9.aa.length=D3 at*;generalize A9.files.length=N3 at*;refine hK.out _ _ hS3 (λ_=>?_);clear hK A3 c1 c2;refine aE 8 6 (.agg #[.slice cP D3 cQ,.slice af3 N3 cf3]) rfl (λw' ⟨k0⟩=>by go_simp) hS3 ?_;refine aE 9 5 (.int .i64 E) rfl (λw' ⟨k0⟩=>by go_simp) hS3 ?_;refine aR 10 4 rfl λK hK=>?_
 go_simp
 go_at_call 32
 refine mo CC ?_;rintro w4 ⟨O4,x4,y4,K5⟩;have hS4:=cj.out _ (Oe.trans O4);refine hK.out _ _ hS4 (λ_=>?_);clear hK;refine aE 11 3 (.string (ba t8)) rfl (λw' ⟨k0⟩=>by go_simp) hS4 ?_;refine aE 12 2 (.int .i64 E) rfl (λw' ⟨k0⟩=>by go_simp) hS4 ?_;refine aE 13 1 (.string (ba t8)) rfl (λw' ⟨k0⟩=>by go_simp) hS4 ?_;refine aR 14 0 rfl λK hK=>?_
 go_simp
 refine hK.out _ _ hS4 (λ_=>?_);clear hK;refine⟨by kernel_rfl,?_⟩;have O9:=(On.of (p:=p) B4).trans O4;clear hS4 hS3 hS cj Oe Od B4 B3 D0 O4 G3 O3 K4 K3;go_wp2_with fail
 go_ret2
 exact⟨rfl,O9,_,_,K5⟩
theorem RU  (h:Ck B p w v l x y a) (hc:Vz a=0) (hT:Gl w) (hl:line.length<=100000) (ho:VW line=some (.compact)) :
 eW p line w (ZJ B p w v l (if Vz a=0 then bh a else a) (if Vz a=0 then [111,107] else []) (Vz a)):=by
 unfold eW
 have CR:CB 31 #[.string (ba line)] w (.tuple #[.agg #[.string ⟨#[99,111,109,112,97,99,116]⟩,.string ⟨#[]⟩,.string ⟨#[]⟩,.int .i64 0,.int .i64 0],.bool true]):=by
  have C:=lS line w hl hT.mx;unfold ZG at C;rw[ho]at C;exact C
 have hS:=Wy hc;obtain⟨ad,cd,af,cf,rfl,rfl,hV⟩:=h.ar.slices;have CP:=Za λw' (h9:ae w w')=>Qj ad af cd cf a w' (hV.below h9) hS
 have HK:Hid (∀w',ae w w'->Ck B p w' v l (.slice ad a.aa.length cd) (.slice af a.files.length cf) a):=λw' h9=>h.next h9
 have hlt:=h.lt;have bd:∀g,v.ownBlock=some g->g<w.heap.size:=λg hg=>(h.own.lt g hg).2
 unfold av at CP;unfold ZJ;clear h hT hV hc hS ho;generalize Vz a=E at*;generalize bh a=A9 at*;generalize jL:(if E=0 then A9 else a)=A8 at*;generalize pj:(if E=0 then([111,107]:List UInt8) else [])=t8 at*;generalize a.aa.length=D at*;generalize a.files.length=N at*;go_enter func18,ntmps18
 go_wp2_with fail
 refine mo CR λw1 G1=>?_
 have F:=FB.new w1 59 (.string ⟨#[99,111,109,112,97,99,116]⟩) (.string ⟨#[]⟩) (.string ⟨#[]⟩) (.int .i64 0) (.int .i64 0);have B2:=ag G1 (Zb w1 (.cells #[.string ⟨#[99,111,109,112,97,99,116]⟩,.string ⟨#[]⟩,.string ⟨#[]⟩,.int .i64 0,.int .i64 0] 59 (0,0)));have K2:=HK.out _ B2;have c0:=F.c 0 (by omega);simp only[reduceIte,Nat.reduceEqDiff]at c0;have c1:=K2.c1;have c2:=K2.c2;go_wp2_with fail
 generalize (w1.alloc (.cells #[.string ⟨#[99,111,109,112,97,99,116]⟩,.string ⟨#[]⟩,.string ⟨#[]⟩,.int .i64 0,.int .i64 0] 59 (0,0)))=w2 at*;refine(CP.out _ B2).mono ?_;intro e w3 A3;obtain⟨cP,cQ,af3,cf3,rfl,O3,G3⟩:=A3.own;have B3:=ag B2 G3;have K3:=K2.next G3;have hz2:=B2.size;go_wp2_with fail
 have CC:=vP B p w2.heap.size w3 v l _ _ a _ E cP af3 _ _ cQ cf3 K3 O3 (by omega) (λg hg=>by have:=bd g hg;omega);rw[jL,pj]at CC;refine mo CC ?_;rintro w4 ⟨O4,x4,y4,K4⟩;have O5:=(On.of (p:=p) B3).trans O4;go_wp2_with fail
 go_ret2
 exact⟨rfl,O5,_,_,K4⟩
end
open Dk (ba)
namespace Dk
theorem YC(l m:List UInt8):ba l++ba m=ba (l++m):=XR l m
def Xa(fs:List Ar.F)(k:Nat):ByteArray:=ba (lst (fs.take k))
def jZ(f:Ar.F):ByteArray:=f.name++⟨#[58]⟩++ba (VJ f.size.toNat)++⟨#[47]⟩++ba (VJ f.blk.size)
theorem ju(f:Ar.F):jZ f=ba (dJ f):=by
 unfold jZ dJ;rw[<-YC,<-YC,<-YC,<-YC,fE];rfl
theorem jb(h:k<fs.length):Xa fs (k+1)=(if k=0 then Xa fs k else Xa fs k++⟨#[32]⟩)++(Nm fs k).name++⟨#[58]⟩++ba (VJ (Nm fs k).size.toNat)++⟨#[47]⟩++ba (VJ (Nm fs k).blk.size):=by
 have e:Nm fs k=fs[k]:=by simp[Nm,h]
 have h2:∀s:ByteArray,s++fs[k].name++⟨#[58]⟩++ba (VJ fs[k].size.toNat)++⟨#[47]⟩++ba (VJ fs[k].blk.size)=s++ba (dJ fs[k]):=λs=>by
  rw[<-ju];unfold jZ;simp only[ByteArray.append_assoc]
 rw[e,h2];unfold Xa;rw[k7 h];by_cases hk:k=0
 ·rw[ax hk,ax hk,YC]
 ·rw[ab hk,ab hk,show(⟨#[32]⟩:ByteArray)=ba [32]from rfl,YC,YC]
theorem lj(h:Vz a=0)(k:Nat):(Xa a.files k).size<=600:=by
 have hl:=fp (a.files.take k) (λf hf=>fS h (List.mem_of_mem_take hf));have hm:=(Zj.1 (VV.1 h).1).2.1;have h2:(a.files.take k).length<=a.files.length:=List.length_take_le' _ _;unfold Xa;rw[VF];omega
theorem aaO(h:Vz a=0){k:Nat}(hk:k<a.files.length):∃n:Nat,(Nm a.files k).size=n/\n<10000000000000000/\(Nm a.files k).name.size<=12/\(Nm a.files k).blk.size<=7000:=by
 obtain⟨⟨_,_,⟨h0,h2⟩,_⟩,h3,h4⟩:=aac h hk;exact⟨(Nm a.files k).size.toNat,by omega,by omega,h3,h4⟩
theorem aaP(h:a.files.length=0):ba (bP a)=⟨#[110,111,110,101]⟩:=by
 unfold bP;rw[ax (List.length_eq_zero_iff.1 h)];rfl
theorem aaQ(h:a.files.length≠0):ba (bP a)=Xa a.files a.files.length/\(Xa a.files a.files.length).size≠0:=by
 have h1:a.files ≠ []:=λe=>h (by rw[e];rfl)
 have h2:lst a.files ≠ []:=λe=>h1 (gS.1 e)
 unfold Xa;rw[List.take_length,iw,ab h2,VF];exact⟨rfl,λe=>h2 (lZ.1 e)⟩
end Dk
open Dk (ba)
namespace Dk
theorem lk(h:k<fs.length):((fs.take (k+1)).map jZ).map Value.string=((fs.take k).map jZ).map Value.string++[.string (jZ (Nm fs k))]:=by
 rw[YL h,List.map_append,List.map_append];rfl
theorem jv(fs:List Ar.F):Lib.join ((fs.map jZ).map (·.data.toList)) [32]=lst fs:=by
 unfold Lib.join lst;rw[List.map_map]
 congr 1
end Dk
theorem RV(ad af:Option Addr)(cd cf:Nat)(a:Ar.A)(w:World)(h:bo w ad af a)(hc:Vz a=0)(h0:a.files.length≠0)(hT:Gl w) :
 CB 39 #[av ad cd af cf a] w (.string (Xa a.files a.files.length)):=by
 obtain⟨i0,hi,hz0,hz1,hz2⟩:=info_parts (P:=prog) (e:=9) (z:=.string ⟨#[]⟩) (size:=1) (bytes:=16) (by kernel_rfl);have cy:=Za λw' (h9:ae w w') k (hk:k<a.files.length)=>(h.fs.below h9).at hk
 have HP:=Za λk (hk:k<a.files.length)=>aaO hc hk
 have HS:=Za λk (hk:k<a.files.length)=>Dk.lk hk
 have HD:Hid (∀k,jZ (Nm a.files k)=(Nm a.files k).name++⟨#[58]⟩++ba (VJ (Nm a.files k).size.toNat)++⟨#[47]⟩++ba (VJ (Nm a.files k).blk.size)):=λk=>rfl
 have hm:=(Zj.1 (VV.1 hc).1).2.1;have HG:=Za λw' (h9:ae w w')=>hT.below h9
 have HJ:Hid (∀w' v,w'.ownsRow (w.heap.size+1) 9 1 v a.files.length ((a.files.map jZ).map Value.string)->CB 74 #[v,.string ⟨#[32]⟩] w' (.string (Xa a.files a.files.length))):=λw' v ho=>by
  have tr:(a.files.map jZ).length=a.files.length:=List.length_map _;rw[<-tr]at ho;obtain⟨Vt,cap,rfl,hcap,de⟩:=qk ho;rcases de with h8|⟨g,off,rfl,_,hat⟩
  ·exact absurd (by rw[<-tr,h8];rfl) h0
  ·have C:=Tryz.strings_Join g off cap (a.files.map jZ) ⟨#[32]⟩ w' (λj x hj=>by
    have h7:=hat.2 j (List.getElem?_eq_some_iff.1 hj).1;rw[h7]
    simp only[VA,List.getD,hj,Option.getD_some]) hat.1 (by rw[tr];omega) hcap (by
    rw[show(⟨#[32]⟩:ByteArray).data.toList=[32]from rfl,jv];have:=Dk.fp a.files (λf hf=>Dk.fS hc hf)
    omega)
   rw[show(⟨#[32]⟩:ByteArray).data.toList=[32]from rfl,jv]at C;have e9:Xa a.files a.files.length=⟨(Dk.lst a.files).toArray⟩:=by unfold Xa;rw[List.take_length];rfl
   rw[e9];exact C
 have vZ:Hid (a.files.take a.files.length=a.files):=List.take_length;have B0:=Zb w (.cells #[.slice ad a.aa.length cd,.slice af a.files.length cf] 35 (0,0));have XA:=Bx.new w (.slice ad a.aa.length cd) (.slice af a.files.length cf);have j5:(w.alloc (.cells #[.slice ad a.aa.length cd,.slice af a.files.length cf] 35 (0,0))).heap.size=w.heap.size+1:=by simp
 generalize Xa a.files a.files.length=R at*;clear h hc hT;unfold av
 obtain⟨N,hN⟩:∃N,a.files.length=N:=⟨_,rfl⟩
 simp only[hN]at cy HP HS HJ vZ;rw[hN]at XA B0 hm h0 j5 |-
 generalize a.aa.length=D at*;clear hN;have hm':(N:Int)<=12:=by omega
 have hN0:((N:Int)==0)=false:=by simpa using(show ¬((N:Int)=0) by omega)
 have hN0':(N==0)=false:=by simpa using h0
 have a1:=XA.c1;go_enter func39,ntmps39
 go_wp2_with fail
 generalize (w.alloc (.cells #[.slice ad D cd,.slice af N cf] 35 (0,0)))=w1 at*;have hzw:w.heap.size+1<=w1.heap.size:=by omega
 clear XA a1 j5;go_loopw [3,13] (λv i wr=>∃k:Nat,k<=N/\i=.int .i64 k/\ae w wr/\w.heap.size+1<=wr.heap.size/\wr.ownsRow (w.heap.size+1) 9 1 v k (((a.files.take k).map jZ).map Value.string)) (λ_ i _=>N-(intOf i).toNat)
 case atStart=>exact⟨0,by omega,rfl,B0,hzw,⟨rfl,.inl ⟨rfl,rfl⟩⟩⟩
 case round =>
  obtain⟨k,hk2,rfl,B1,ql,O⟩:=hrel;by_cases hlt:k<N
  ·have d1:=al (by omega:(k:Int)<(N:Int));have d1':=al (by omega:k<N);have hki:(k:Int)<(N:Int):=by omega
   obtain⟨b,off,rfl,hb,F⟩:=cy.out wr B1 k hlt;obtain⟨n,hn,hn2,hnm,hbk⟩:=HP.out k hlt;have HS2:Hid (_=_):=HS.out k hlt;have HD2:Hid (_=_):=HD.out k;rw[hn,Int.toNat_natCast]at HD2;obtain⟨f0,f1,f2,f3,f4⟩:=F;rw[hn]at f2;have z1:(ba (VJ n)).size<=16:=by rw[VF];exact XW hn2
   have z2:(ba (VJ (Nm a.files k).blk.size)).size<=16:=by rw[VF];exact XW (by omega)
   have HB:Hid (∀w',ae w w'->(CB 19 #[.int .i64 n] w' (.string (ba (VJ n))))/\(CB 19 #[.int .i64 ((Nm a.files k).blk.size:Nat)] w' (.string (ba (VJ (Nm a.files k).blk.size))))):=λw' h9=>⟨vO n w' hn2 (HG.out w' h9),vO _ w' (by omega) (HG.out w' h9)⟩
   generalize ba (VJ n)=D1 at*;generalize ba (VJ (Nm a.files k).blk.size)=D2 at*;generalize jZ (Nm a.files k)=FL at*;generalize (Nm a.files k).name=nm at*;generalize (Nm a.files k).blk=bk at*;generalize (Nm a.files k).dict=x1 at*;generalize (Nm a.files k).sum=x3 at*;clear hn HS cy HP HD HG HJ vZ;obtain⟨p1,q1,rfl,_⟩:=Zq O;have bd:=λj (hj:(Value.slice p1 k q1).ownBlock=some j)=>(O.lt j hj).2
   have G1:=Zb wr (.cells #[.string nm,.int .i64 x1,.int .i64 n,.int .i64 x3,.string bk] 73 (0,0));have F9:=FB.new wr 73 (.string nm) (.int .i64 x1) (.int .i64 n) (.int .i64 x3) (.string bk);have B2:=ag B1 G1;have hza:=nt ql G1.size;have O:=Zz O G1;go_wp2_with fail
   generalize (wr.alloc (.cells #[.string nm,.int .i64 x1,.int .i64 n,.int .i64 x3,.string bk] 73 (0,0)))=wa at*
   have cj:Hid (∀w',ae wa w'->(λw':World=>w'.cell? ⟨wr.heap.size,0,none⟩=some (.string nm)/\w'.cell? ⟨wr.heap.size,2,none⟩=some (.int .i64 n)/\w'.cell? ⟨wr.heap.size,4,none⟩=some (.string bk)) w'):=λw' h9=>⟨(h9.cell (p:=⟨wr.heap.size,0,none⟩) F9.lt).trans (F9.c 0 (by omega)),(h9.cell (p:=⟨wr.heap.size,2,none⟩) F9.lt).trans (F9.c 2 (by omega)),(h9.cell (p:=⟨wr.heap.size,4,none⟩) F9.lt).trans (F9.c 4 (by omega))⟩
   have GW:Hid (∀wb w',ae wa wb->wb.grownBy w' (Value.slice p1 k q1).ownBlock->(λw':World=>w'.cell? ⟨wr.heap.size,0,none⟩=some (.string nm)/\w'.cell? ⟨wr.heap.size,2,none⟩=some (.int .i64 n)/\w'.cell? ⟨wr.heap.size,4,none⟩=some (.string bk)) w'):=λwb w' h9 h8=>by
    have hne:some wr.heap.size≠(Value.slice p1 k q1).ownBlock:=λe=>by have:=bd _ e.symm;omega
    obtain⟨e0,e1,e2⟩:=cj.out wb h9;exact⟨Zg h8 e0 hne,Zg h8 e1 hne,Zg h8 e2 hne⟩
   have CA:=Za λw' (h9:ae wa w')=>(HB.out w' (ag B2 h9)).1
   have CB:=Za λw' (h9:ae wa w')=>(HB.out w' (ag B2 h9)).2
   have n2:¬9223372036854775807<nm.size+1:=by omega
   have n3:¬9223372036854775807<nm.size+1+D1.size:=by omega
   have n4:¬9223372036854775807<nm.size+1+D1.size+1:=by omega
   have n5:¬9223372036854775807<nm.size+1+D1.size+1+D2.size:=by omega
   clear F9 f0 f1 f2 f3 f4 HB bd;have G0:=(bR wa.heap.size wa).drew;refine wp_region_held_drew (S:=λw'=>w'.cell? ⟨wr.heap.size,0,none⟩=some (.string nm)/\w'.cell? ⟨wr.heap.size,2,none⟩=some (.int .i64 n)/\w'.cell? ⟨wr.heap.size,4,none⟩=some (.string bk)) (by kernel_rfl) (cj.out _ G0) (λhS=>?_);refine aE 0 16 (.slice p1 k q1) rfl (λw' ⟨k1,k2,k3⟩=>by go_simp) hS ?_;refine aE 1 15 (.pointer (some ⟨wr.heap.size,0,none⟩)) rfl (λw' ⟨k1,k2,k3⟩=>by go_simp) hS ?_;refine aE 2 14 (.string nm) rfl (λw' ⟨k1,k2,k3⟩=>by go_simp) hS ?_;refine aE 3 13 (.string (nm++⟨#[58]⟩)) rfl (λw' ⟨k1,k2,k3⟩=>by go_simp) hS ?_;refine aE 4 12 (.pointer (some ⟨wr.heap.size,2,none⟩)) rfl (λw' ⟨k1,k2,k3⟩=>by go_simp) hS ?_;refine aE 5 11 (.int .i64 n) rfl (λw' ⟨k1,k2,k3⟩=>by go_simp) hS ?_;refine aE 9 10 (.pointer (some ⟨wr.heap.size,4,none⟩)) rfl (λw' ⟨k1,k2,k3⟩=>by go_simp) hS ?_;refine aE 10 9 (.string bk) rfl (λw' ⟨k1,k2,k3⟩=>by go_simp) hS ?_;refine aE 11 8 (.int .i64 (bk.size:Nat)) rfl (λw' ⟨k1,k2,k3⟩=>by go_simp) hS ?_;refine aR 6 7 rfl λK hK=>?_
   go_simp
   go_at_call 19
   refine mo (CA.out _ G0) λw5 H5=>?_
   have G5:=ag G0 H5;refine hK.out _ _ (cj.out _ G5) (λhS5=>?_);clear hK H5;refine aE 7 6 (.string (nm++⟨#[58]⟩++D1)) rfl (λw' ⟨k1,k2,k3⟩=>by go_simp) hS5 ?_;refine aE 8 5 (.string (nm++⟨#[58]⟩++D1++⟨#[47]⟩)) rfl (λw' ⟨k1,k2,k3⟩=>by go_simp) hS5 ?_;refine aR 12 4 rfl λK hK=>?_
   go_simp
   go_at_call 19
   refine mo (CB.out _ G5) λw6 H6=>?_
   have G6:=ag G5 H6;refine hK.out _ _ (cj.out _ G6) (λhS6=>?_);clear hK H6;refine aE 13 3 (.string (nm++⟨#[58]⟩++D1++⟨#[47]⟩++D2)) rfl (λw' ⟨k1,k2,k3⟩=>by go_simp) hS6 ?_;generalize RW:nm++⟨#[58]⟩++D1++⟨#[47]⟩++D2=T at*;refine aR 14 2 rfl λK hK=>?_
   go_simp
   have G7:=ag G6 (Zb w6 (.cells #[.string T] 9 (0,0)));refine hK.out _ _ (cj.out _ G7) (λhS7=>?_);clear hK;refine aR 15 1 rfl λK hK=>?_
   have O7:=Zz O G7;have ed:=G7.size;refine gF _ rfl _ _ 32 rfl (w.heap.size+1) 9 i0 (.string ⟨#[]⟩) 1 16 je hi hz0 hz1 hz2 rfl (by decide) (.slice p1 k q1) k _ rfl O7 ⟨w6.heap.size,0,none⟩ 1 1 [.string T] rfl rfl (λj u hj=>by rw[oy,World.cell?_alloc_new];simpa using hj) (by simp[Value.oneCell']) (by decide) (by unfold maxLen;omega) (by omega) (by omega) _ rfl ?_;intro g cp w8 hown hgrow hat AD;have B8:=(ag B2 G7).grown hgrow (by omega) (λj hj=>by have:=(O7.lt j hj).1;omega);have ks:=GW.out _ _ G7 hgrow;have RX:=nt ed hgrow.size;refine hK.out _ _ ks (λ_=>?_);clear hK hgrow hat AD;refine aR 16 0 rfl λK hK=>?_
   go_simp
   refine hK.out _ _ ks (λ_=>?_);clear hK;refine⟨by kernel_rfl,?_⟩;clear ks hS7 hS6 hS5 hS cj GW CA CB G0 G5 G6 G7 O7;go_wp2_with fail
   go_roundw
   case rel=>exact⟨k+1,by omega,by go_num,B8,by omega,by rw[HS2.out,HD2.out];exact hown⟩
   case measure=>simp[intOf];omega
  ·obtain rfl:k=N:=by omega
   have d1:decide ((k:Int)<(k:Int))=false:=by simp
   have d1':decide (k<k)=false:=by simp
   rw[vZ.out]at O;obtain⟨p1,q1,rfl,_⟩:=Zq O;have C:=HJ.out _ _ O;clear HS cy HP HD HG HJ vZ;go_wp2_with fail
   refine mo C λw2 G=>?_
   go_wp2_with fail
   go_ret
   exact⟨rfl,ag B1 G⟩
theorem RY(ad af:Option Addr)(cd cf:Nat)(a:Ar.A)(w:World)(h:bo w ad af a)(hc:Vz a=0)(hT:Gl w) :
 CB 39 #[av ad cd af cf a] w (.string (ba (bP a))):=by
 by_cases h0:a.files.length=0
 ·rw[aaP h0];have B0:=Zb w (.cells #[.slice ad a.aa.length cd,.slice af 0 cf] 35 (0,0));unfold av;rw[h0];go_enter func39,ntmps39
  go_wp2_with fail
  go_ret
  exact⟨rfl,B0⟩
 ·rw[(aaQ h0).1];exact RV ad af cd cf a w h hc h0 hT
open Dk (ba)
namespace Dk
def YB(a:Ar.A):List UInt8:=if aV a=0 then VJ (VT a).size else []
end Dk
theorem RZ(B p:Nat)(w:World)(v:Value)(l:List UInt8)(x y:Value)(a:Ar.A)(h:Ck B p w v l x y a)(hc:Vz a=0)(hT:Gl w) :
 Calls prog 42 #[.pointer (some ⟨p,0,none⟩)] w λe w'=>ZJ B p w v l a (YB a) (aV a) e w':=by
 obtain⟨ad,cd,af,cf,rfl,rfl,hV⟩:=h.ar.slices;have C1:=QS ad af cd cf a w hV (Wy hc);have c1:=h.c1;have c2:=h.c2;have HK:=Za λw' (h9:ae w w')=>h.next h9
 have hlt:=h.lt;have hgB:=h.gB;have bd:=λg (hg:v.ownBlock=some g)=>(h.own.lt g hg).2
 unfold av at C1;unfold ZJ YB;by_cases hs:aV a=0
 ·obtain⟨e1,e2⟩:=aaR hs;have hz:=aaS (a:=a)
  have C2:Hid (∀w',Calls prog 76 #[.string (VT a)] w' λe w2=>ah w' a 0 e w2):=λw'=>by
   have C:=Rp (VT a) w' (by omega);rw[e1,e2]at C;exact C
  have C3:Hid (∀w',Below B w w'->CB 40 #[.int .i64 ((VT a).size:Nat),.int .i64 0] w' (.tuple #[.string (ba (VJ (VT a).size)),.int .i64 0])):=λw' h9=>Gd _ w' (by omega) (hT.under h9 hgB)
  rw[ax hs,hs];rw[hs]at C1;generalize ba (VJ (VT a).size)=T9 at*;generalize VT a=s9 at*;clear h hT hV hc hs e1 e2;go_enter func42,ntmps42
  go_wp2_with fail
  refine mo C1 λw1 G1=>?_
  go_wp2_with fail
  refine(C2.out _).mono ?_;intro e w2 A2;obtain⟨cP,cQ,af3,cf3,rfl,O3,G2⟩:=A2.own;generalize a.aa.length=D at*;generalize a.files.length=N at*;have B2:=ag G1 G2;have G3:=Zb w2 (.cells #[.slice cP D cQ,.slice af3 N cf3] 35 (0,0));have B3:=ag B2 G3;have XA:=Bx.new w2 (.slice cP D cQ) (.slice af3 N cf3);have b0:=XA.c0;have b1:=XA.c1;have K3:=HK.out _ B3;have k1:=K3.c1;have k2:=K3.c2;have z1:=K3.f 1 (by omega);have z2:=K3.f 2 (by omega);have hz1:=G1.size;obtain⟨K4,_⟩:=K3.set (O3.next G3) (by omega) (λg hg=>by have:=bd g hg;omega);have O4:=((On.of (p:=p) B3).put 1 (.slice cP D cQ)).put 2 (.slice af3 N cf3);have L4:=O4.under (lo:=B) K3.hp (nL (Nat.lt_of_le_of_lt K3.hp hlt));clear K3 XA O3 A2 C1 C2 c1 c2;go_wp2_with fail
  refine mo (C3.out _ L4) λw5 G5=>?_
  have O5:=O4.trans (On.of G5);have K5:=K4.next G5;go_wp2_with fail
  go_ret2
  exact⟨rfl,O5,_,_,K5⟩
 ·rw[ab hs];have d:(aV a==0)=false:=by simpa using hs
  generalize aV a=E9 at*;generalize VT a=s9 at*;clear h hT hV hc;go_enter func42,ntmps42
  go_wp2_with fail
  refine mo C1 λw1 G1=>?_
  have K1:=HK.out _ G1;have O1:=On.of (p:=p) G1;go_wp2_with fail
  go_ret2
  exact⟨rfl,O1,_,_,K1⟩
open Go.Sort (grow)
open Dk (ba)
section
variable {B p:Nat} {w:World} {v:Value} {l:List UInt8} {x y:Value} {a:Ar.A} {line:List UInt8}
theorem R6  (n:List UInt8) (h:Ck B p w v l x y a) (hc:Vz a=0) (hT:Gl w) (hl:line.length<=100000) (ho:VW line=some (.get n)):eW p line w (ZJ B p w v l a (bD a (ba n)).data.toList (VE a (ba n))):=by
 unfold eW
 have CR:CB 31 #[.string (ba line)] w (.tuple #[.agg #[.string ⟨#[103,101,116]⟩,.string (ba n),.string ⟨#[]⟩,.int .i64 0,.int .i64 0],.bool true]):=by
  have C:=lS line w hl hT.mx;unfold ZG at C;rw[ho]at C;exact C
 have hS:=Wy hc;obtain⟨ad,cd,af,cf,rfl,rfl,hV⟩:=h.ar.slices;have CP:=Za λw' (h9:ae w w')=>Fe ad af cd cf a (ba n) w' (hV.below h9) hS
 have HK:Hid (∀w',ae w w'->Ck B p w' v l (.slice ad a.aa.length cd) (.slice af a.files.length cf) a):=λw' h9=>h.next h9
 have hlt:=h.lt;have bd:∀g,v.ownBlock=some g->g<w.heap.size:=λg hg=>(h.own.lt g hg).2
 unfold ZJ;unfold av at CP;rw[fE];clear h hT hV hc hS ho;generalize bD a (ba n)=T9 at*;generalize VE a (ba n)=E9 at*;generalize ba n=s0 at*;generalize a.aa.length=D at*;generalize a.files.length=N at*;go_enter func18,ntmps18
 go_wp2_with fail
 refine mo CR λw1 G1=>?_
 have F:=FB.new w1 59 (.string ⟨#[103,101,116]⟩) (.string s0) (.string ⟨#[]⟩) (.int .i64 0) (.int .i64 0);have B2:=ag G1 (Zb w1 (.cells #[.string ⟨#[103,101,116]⟩,.string s0,.string ⟨#[]⟩,.int .i64 0,.int .i64 0] 59 (0,0)));have K2:=HK.out _ B2;have c0:=F.c 0 (by omega);simp only[reduceIte,Nat.reduceEqDiff]at c0;go_wp2_with fail
 generalize (w1.alloc (.cells #[.string ⟨#[103,101,116]⟩,.string s0,.string ⟨#[]⟩,.int .i64 0,.int .i64 0] 59 (0,0)))=w2 at*;have k1:=cell_regrown K2.c1;have k2:=cell_regrown K2.c2;have q1:=cell_regrown (show w2.cell? ⟨w1.heap.size,1,none⟩=some (.string s0) from F.c 1 (by omega));have cG:∀d os,Calls prog 37 #[.agg #[.slice ad D cd,.slice af N cf],.string s0] (grow (redrawn w2 d) os) λe w9=>e=.returned (.tuple #[.string T9,.int .i64 E9])/\∃p:Regrown,w9=grow (redrawn w2 p.d) p.os:=λd os=>Calls.regrown_of (CP.out _ (ag B2 (below_regrown w2 d os)))
 clear F c0 CP;refine wp_region_quiet_below (by kernel_rfl) (by kernel_rfl) ?_
 repeat (quiet_step (exact cG _ _))
 refine wpQuiet_nil ?_;intro _ tD;obtain⟨⟨dq,osq⟩,hw8⟩:=tD;subst hw8;have G3:=below_regrown w2 dq osq;have O9:=On.of (p:=p) (ag B2 G3);have K5:=K2.next G3;clear cG k1 k2 q1;generalize grow (redrawn w2 dq) osq=w3 at*;go_wp2_with fail
 go_ret2
 exact⟨rfl,O9,_,_,K5⟩
theorem R7  (n:List UInt8) (i k:Nat) (h:Ck B p w v l x y a) (hc:Vz a=0) (hT:Gl w) (hl:line.length<=100000) (ho:VW line=some (.range n i k)) (hi:i<1000000) (hk:k<1000000):eW p line w (ZJ B p w v l a (W7 a (ba n) i k).data.toList (WO a (ba n) i k)):=by
 unfold eW
 have CR:CB 31 #[.string (ba line)] w (.tuple #[.agg #[.string ⟨#[114,97,110,103,101]⟩,.string (ba n),.string ⟨#[]⟩,.int .i64 (i:Nat),.int .i64 (k:Nat)],.bool true]):=by
  have C:=lS line w hl hT.mx;unfold ZG at C;rw[ho]at C;exact C
 have hS:=Wy hc;obtain⟨ad,cd,af,cf,rfl,rfl,hV⟩:=h.ar.slices;have CP:=Za λw' (h9:ae w w')=>OP ad af cd cf a (ba n) i k w' (hV.below h9) hS (by omega) (by omega)
 have HK:Hid (∀w',ae w w'->Ck B p w' v l (.slice ad a.aa.length cd) (.slice af a.files.length cf) a):=λw' h9=>h.next h9
 have hlt:=h.lt;have bd:∀g,v.ownBlock=some g->g<w.heap.size:=λg hg=>(h.own.lt g hg).2
 unfold ZJ;unfold av at CP;rw[fE];clear h hT hV hc hS ho;generalize W7 a (ba n) i k=T9 at*;generalize WO a (ba n) i k=E9 at*;generalize ba n=s0 at*;generalize a.aa.length=D at*;generalize a.files.length=N at*;go_enter func18,ntmps18
 go_wp2_with fail
 refine mo CR λw1 G1=>?_
 have F:=FB.new w1 59 (.string ⟨#[114,97,110,103,101]⟩) (.string s0) (.string ⟨#[]⟩) (.int .i64 (i:Nat)) (.int .i64 (k:Nat));have B2:=ag G1 (Zb w1 (.cells #[.string ⟨#[114,97,110,103,101]⟩,.string s0,.string ⟨#[]⟩,.int .i64 (i:Nat),.int .i64 (k:Nat)] 59 (0,0)));have K2:=HK.out _ B2;have c0:=F.c 0 (by omega);simp only[reduceIte,Nat.reduceEqDiff]at c0;go_wp2_with fail
 generalize (w1.alloc (.cells #[.string ⟨#[114,97,110,103,101]⟩,.string s0,.string ⟨#[]⟩,.int .i64 (i:Nat),.int .i64 (k:Nat)] 59 (0,0)))=w2 at*;have k1:=cell_regrown K2.c1;have k2:=cell_regrown K2.c2;have q1:=cell_regrown (show w2.cell? ⟨w1.heap.size,1,none⟩=some (.string s0) from F.c 1 (by omega));have q3:=cell_regrown (show w2.cell? ⟨w1.heap.size,3,none⟩=some (.int .i64 (i:Nat)) from F.c 3 (by omega));have q4:=cell_regrown (show w2.cell? ⟨w1.heap.size,4,none⟩=some (.int .i64 (k:Nat)) from F.c 4 (by omega));have cG:∀d os,Calls prog 38 #[.agg #[.slice ad D cd,.slice af N cf],.string s0,.int .i64 (i:Nat),.int .i64 (k:Nat)] (grow (redrawn w2 d) os) λe w9=>e=.returned (.tuple #[.string T9,.int .i64 E9])/\∃p:Regrown,w9=grow (redrawn w2 p.d) p.os:=λd os=>Calls.regrown_of (CP.out _ (ag B2 (below_regrown w2 d os)))
 clear F c0 CP;refine wp_region_quiet_below (by kernel_rfl) (by kernel_rfl) ?_
 repeat (quiet_step (exact cG _ _))
 refine wpQuiet_nil ?_;intro _ tD;obtain⟨⟨dq,osq⟩,hw8⟩:=tD;subst hw8;have G3:=below_regrown w2 dq osq;have O9:=On.of (p:=p) (ag B2 G3);have K5:=K2.next G3;clear cG k1 k2 q1 q3 q4;generalize grow (redrawn w2 dq) osq=w3 at*;go_wp2_with fail
 go_ret2
 exact⟨rfl,O9,_,_,K5⟩
theorem R8   (h:Ck B p w v l x y a) (hc:Vz a=0) (hT:Gl w) (hl:line.length<=100000) (ho:VW line=some (.list)):eW p line w (ZJ B p w v l a (bP a) 0):=by
 unfold eW
 have CR:CB 31 #[.string (ba line)] w (.tuple #[.agg #[.string ⟨#[108,105,115,116]⟩,.string ⟨#[]⟩,.string ⟨#[]⟩,.int .i64 0,.int .i64 0],.bool true]):=by
  have C:=lS line w hl hT.mx;unfold ZG at C;rw[ho]at C;exact C
 have hS:=Wy hc;obtain⟨ad,cd,af,cf,rfl,rfl,hV⟩:=h.ar.slices;have CP:Hid (∀w',ae w w'->CB 39 #[av ad cd af cf a] w' (.string (ba (bP a)))):=λw' h9=>RY ad af cd cf a w' (hV.below h9) hc (hT.below h9)
 have HK:Hid (∀w',ae w w'->Ck B p w' v l (.slice ad a.aa.length cd) (.slice af a.files.length cf) a):=λw' h9=>h.next h9
 have hlt:=h.lt;have bd:∀g,v.ownBlock=some g->g<w.heap.size:=λg hg=>(h.own.lt g hg).2
 unfold ZJ;unfold av at CP;clear h hT hV hc hS ho;generalize ba (bP a)=T9 at*;generalize a.aa.length=D at*;generalize a.files.length=N at*;go_enter func18,ntmps18
 go_wp2_with fail
 refine mo CR λw1 G1=>?_
 have F:=FB.new w1 59 (.string ⟨#[108,105,115,116]⟩) (.string ⟨#[]⟩) (.string ⟨#[]⟩) (.int .i64 0) (.int .i64 0);have B2:=ag G1 (Zb w1 (.cells #[.string ⟨#[108,105,115,116]⟩,.string ⟨#[]⟩,.string ⟨#[]⟩,.int .i64 0,.int .i64 0] 59 (0,0)));have K2:=HK.out _ B2;have c0:=F.c 0 (by omega);simp only[reduceIte,Nat.reduceEqDiff]at c0;have c1:=K2.c1;have c2:=K2.c2;go_wp2_with fail
 generalize (w1.alloc (.cells #[.string ⟨#[108,105,115,116]⟩,.string ⟨#[]⟩,.string ⟨#[]⟩,.int .i64 0,.int .i64 0] 59 (0,0)))=w2 at*;refine mo (CP.out _ B2) λw3 G3=>?_
 have O9:=On.of (p:=p) (ag B2 G3);have K5:=K2.next G3;go_wp2_with fail
 go_ret2
 exact⟨rfl,O9,_,_,K5⟩
theorem R9   (h:Ck B p w v l x y a) (hc:Vz a=0) (hT:Gl w) (hl:line.length<=100000) (ho:VW line=some (.size)):eW p line w (ZJ B p w v l a (VJ (Wg a)) 0):=by
 unfold eW
 have CR:CB 31 #[.string (ba line)] w (.tuple #[.agg #[.string ⟨#[115,105,122,101]⟩,.string ⟨#[]⟩,.string ⟨#[]⟩,.int .i64 0,.int .i64 0],.bool true]):=by
  have C:=lS line w hl hT.mx;unfold ZG at C;rw[ho]at C;exact C
 have hS:=Wy hc;obtain⟨ad,cd,af,cf,rfl,rfl,hV⟩:=h.ar.slices;have CP:Hid (∀w',ae w w'->CB 41 #[av ad cd af cf a] w' (.tuple #[.int .i64 (Wg a:Nat),.int .i64 0])):=λw' h9=>by have C:=PX ad af cd cf a w' (hV.below h9) hS;rw[hc]at C;exact C
 have CT:Hid (∀w',ae w w'->CB 40 #[.int .i64 (Wg a:Nat),.int .i64 0] w' (.tuple #[.string (ba (VJ (Wg a))),.int .i64 0])):=λw' h9=>Gd (Wg a) w' (aaT hc) (hT.below h9)
 have HK:Hid (∀w',ae w w'->Ck B p w' v l (.slice ad a.aa.length cd) (.slice af a.files.length cf) a):=λw' h9=>h.next h9
 have hlt:=h.lt;have bd:∀g,v.ownBlock=some g->g<w.heap.size:=λg hg=>(h.own.lt g hg).2
 unfold ZJ;unfold av at CP;clear h hT hV hc hS ho;generalize ba (VJ (Wg a))=T9 at*;generalize Wg a=Z9 at*;generalize a.aa.length=D at*;generalize a.files.length=N at*;go_enter func18,ntmps18
 go_wp2_with fail
 refine mo CR λw1 G1=>?_
 have F:=FB.new w1 59 (.string ⟨#[115,105,122,101]⟩) (.string ⟨#[]⟩) (.string ⟨#[]⟩) (.int .i64 0) (.int .i64 0);have B2:=ag G1 (Zb w1 (.cells #[.string ⟨#[115,105,122,101]⟩,.string ⟨#[]⟩,.string ⟨#[]⟩,.int .i64 0,.int .i64 0] 59 (0,0)));have K2:=HK.out _ B2;have c0:=F.c 0 (by omega);simp only[reduceIte,Nat.reduceEqDiff]at c0;have c1:=K2.c1;have c2:=K2.c2;go_wp2_with fail
 generalize (w1.alloc (.cells #[.string ⟨#[115,105,122,101]⟩,.string ⟨#[]⟩,.string ⟨#[]⟩,.int .i64 0,.int .i64 0] 59 (0,0)))=w2 at*;refine mo (CP.out _ B2) λw3 G3=>?_
 have B3:=ag B2 G3;have K4:=K2.next G3;go_wp2_with fail
 refine mo (CT.out _ B3) λw4 G4=>?_
 have O9:=On.of (p:=p) (ag B3 G4);have K5:=K4.next G4;go_wp2_with fail
 go_ret2
 exact⟨rfl,O9,_,_,K5⟩
theorem Sa   (h:Ck B p w v l x y a) (hc:Vz a=0) (hT:Gl w) (hl:line.length<=100000) (ho:VW line=some (.save)):eW p line w (ZJ B p w v l a (YB a) (aV a)):=by
 unfold eW
 have CR:CB 31 #[.string (ba line)] w (.tuple #[.agg #[.string ⟨#[115,97,118,101]⟩,.string ⟨#[]⟩,.string ⟨#[]⟩,.int .i64 0,.int .i64 0],.bool true]):=by
  have C:=lS line w hl hT.mx;unfold ZG at C;rw[ho]at C;exact C
 have hS:=Wy hc;obtain⟨ad,cd,af,cf,rfl,rfl,hV⟩:=h.ar.slices;have HT:Hid (∀w',ae w w'->Gl w'):=λw' h9=>hT.below h9
 have HK:Hid (∀w',ae w w'->Ck B p w' v l (.slice ad a.aa.length cd) (.slice af a.files.length cf) a):=λw' h9=>h.next h9
 have hlt:=h.lt;have bd:∀g,v.ownBlock=some g->g<w.heap.size:=λg hg=>(h.own.lt g hg).2
 unfold ZJ;have rZ:=hc;clear h hT hV hc hS ho;go_enter func18,ntmps18
 go_wp2_with fail
 refine mo CR λw1 G1=>?_
 have F:=FB.new w1 59 (.string ⟨#[115,97,118,101]⟩) (.string ⟨#[]⟩) (.string ⟨#[]⟩) (.int .i64 0) (.int .i64 0);have B2:=ag G1 (Zb w1 (.cells #[.string ⟨#[115,97,118,101]⟩,.string ⟨#[]⟩,.string ⟨#[]⟩,.int .i64 0,.int .i64 0] 59 (0,0)));have K2:=HK.out _ B2;have c0:=F.c 0 (by omega);simp only[reduceIte,Nat.reduceEqDiff]at c0;have c1:=K2.c1;have c2:=K2.c2;go_wp2_with fail
 generalize (w1.alloc (.cells #[.string ⟨#[115,97,118,101]⟩,.string ⟨#[]⟩,.string ⟨#[]⟩,.int .i64 0,.int .i64 0] 59 (0,0)))=w2 at*;have CS:=RZ B p w2 v l _ _ a K2 rZ (HT.out _ B2);unfold ZJ at CS;refine mo CS ?_;rintro w3 ⟨O3,x3,y3,K5⟩;have O9:=(On.of (p:=p) B2).trans O3;go_wp2_with fail
 go_ret2
 exact⟨rfl,O9,_,_,K5⟩
theorem Sb  (h:Ck B p w v l x y a) (hT:Gl w) (hl:line.length<=100000) (ho:VW line=none):eW p line w (ZJ B p w v l a [] 1):=by
 unfold eW
 have CR:CB 31 #[.string (ba line)] w (.tuple #[.agg #[.string ⟨#[]⟩,.string ⟨#[]⟩,.string ⟨#[]⟩,.int .i64 0,.int .i64 0],.bool false]):=by
  have C:=lS line w hl hT.mx;unfold ZG at C;rw[ho]at C;exact C
 have HK:Hid (∀w',ae w w'->Ck B p w' v l x y a):=λw' h9=>h.next h9
 unfold ZJ;clear h hT ho;go_enter func18,ntmps18
 go_wp2_with fail
 refine mo CR λw1 G1=>?_
 have B2:=ag G1 (Zb w1 (.cells #[.string ⟨#[]⟩,.string ⟨#[]⟩,.string ⟨#[]⟩,.int .i64 0,.int .i64 0] 59 (0,0)));have K2:=HK.out _ B2;have O2:=On.of (p:=p) B2;go_wp2_with fail
 go_ret2
 exact⟨rfl,O2,_,_,K2⟩
end
end Go.Proofs.YtbjbjbpgmojcbacGreatDoor
