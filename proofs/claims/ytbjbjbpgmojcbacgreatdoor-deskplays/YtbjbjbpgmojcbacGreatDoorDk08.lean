/- A part of the proof: what it leans on. -/
import Derived.Deep.RegionLaw
import Derived.Test.YtbjbjbpgmojcbacGreatDoorDk06
import Derived.Test.YtbjbjbpgmojcbacGreatDoorDk07
set_option maxRecDepth 4000
set_option maxHeartbeats 4000000
namespace Go.Proofs.YtbjbjbpgmojcbacGreatDoor
open Ar Bk Cd Dk Im Tk Tr Vy
open Tryz
variable{b s:ByteArray}{xs:List ByteArray}{l:List Tk.T}{a base bm f ga gf gl gp k n off r:Nat}{ad:Option Addr}{v:Value}{w w':World}
open Go.RowKit
namespace Bk
def Wm(s:ByteArray)(k:Nat):Nat->Int:=λi=>if i<2*k then(if i%2=0 then(Cd.at8 s (i/2)/16:Nat) else(Cd.at8 s (i/2)%16:Nat)) else 0
def Wa(s:ByteArray):Nat->Int:=Wm s 8
theorem Yv(s:ByteArray)(k:Nat)(i:Nat):upd (upd (Wm s k) (2*k) (Cd.at8 s k/16:Nat)) (2*k+1) (Cd.at8 s k%16:Nat) i=Wm s (k+1) i:=by
 unfold upd Wm;by_cases h1:i=2*k+1
 ·subst h1;rw[ax rfl,ax (by omega),ab (by omega),show(2*k+1)/2=k by omega]
 ·rw[ab h1];by_cases h2:i=2*k
  ·subst h2;rw[ax rfl,ax (by omega),ax (by omega),show 2*k/2=k by omega]
  ·rw[ab h2];by_cases h3:i<2*k
   ·rw[ax h3,ax (show i<2*(k+1) by omega)]
   ·rw[ab h3,ab (show ¬i<2*(k+1) by omega)]
def jo(s:ByteArray):ByteArray×Int:=if 512<s.size then(⟨#[]⟩,1) else(s,0)
def Wv(dict s:ByteArray):ByteArray×Int:=match ZM dict s with|none=>(⟨#[]⟩,1)|some l=>(gZ dict l,0)
def enc(s:ByteArray):ByteArray:=(⟨(XG (VH (hv s)).1).toArray⟩:ByteArray)++⟨(VB s.size).toArray⟩++(VO (VH (hv s)).1 s).1
theorem yQ{c:Nat->Int}(h:Wk c 2048 16):Wk (VH c).1 15 16:=by
 by_cases h0:(VH c).2=0
 ·exact(Yc (aaw c h0).1).1
 ·have e:(VH c).1=λ_=>0:=by
   unfold VH at h0 |-
   rw[ab (λh9=>h9 h)]at h0 |-
   by_cases h1:(WJ c 16).1=-1
   ·rw[ax h1]
   ·rw[ab h1]at h0;by_cases h2:(WJ c 16).2=-1
    ·rw[ax h2]at h0;exact absurd rfl h0
    ·rw[ab h2]at h0;exact absurd rfl h0
  rw[e];intro i _;exact⟨Int.le_refl _,by show(0:Int)<=15;decide⟩
end Bk
theorem MH(s:ByteArray)(w:World)(hs:s.size<=140737488355328) :
 CB 188 #[.string s] w (.tuple #[.string (jo s).1,.int .i64 (jo s).2]):=by
 by_cases h:512<s.size
 ·have e:jo s=(⟨#[]⟩,1):=ax h;rw[e];have d1:=al (by omega:512<(s.size:Int));have h':512<(s.size:Int):=by omega
  clear e h;go_enter func188,ntmps188
  go_wp2_with fail
  go_ret2
  exact⟨rfl,bR _ _⟩
 ·have e:jo s=(s,0):=ab h;rw[e];have d1:=dF (by omega:¬(512<(s.size:Int)));have hc:=λw=>ZY s w (by omega)
  clear e h;go_enter func188,ntmps188
  go_wp2_with fail
  refine mo (hc _) λw1 G=>?_
  go_wp2_with fail
  go_ret2
  exact⟨rfl,G⟩
theorem Eu(dict s:ByteArray)(w:World)(hd:dict.size<=256) :
 CB 189 #[.string dict,.string s] w (.tuple #[.string (Wv dict s).1,.int .i64 (Wv dict s).2]):=by
 have c1:=λw=>Kn dict s w hd (λh=>yP hd h)
 cases hq:ZM dict s with
 |none =>
  have e:Wv dict s=(⟨#[]⟩,1):=by rw[Wv,hq]
  rw[e]
  have c2:∀w,Calls prog 216 #[.string dict,.string s] w λe w'=>ae w w'/\e=.returned (.tuple #[.slice none 0 0,.int .i64 1]):=λw=>(c1 w).mono λe w' h=>by
   rcases h with⟨h1,⟨_,h2⟩|⟨l,a,c,h2,_⟩⟩
   ·exact⟨h1,h2⟩
   ·rw[hq]at h2;cases h2
  clear e hq c1;go_enter func189,ntmps189
  go_wp2_with fail
  refine(c2 _).mono ?_;rintro e w1 ⟨G,rfl⟩;go_wp2_with fail
  go_ret2
  exact⟨rfl,G⟩
 |some l =>
  have e:Wv dict s=(gZ dict l,0):=by rw[Wv,hq]
  rw[e]
  have c2:∀w,Calls prog 216 #[.string dict,.string s] w λe w'=>ae w w'/\∃ad cap,e=.returned (.tuple #[.slice ad l.length cap,.int .i64 0])/\cJ w' ad l:=λw=>(c1 w).mono λe w' h=>by
   rcases h with⟨h1,⟨h2,_⟩|⟨k,a,c,h2,h3,h4⟩⟩
   ·rw[hq]at h2;cases h2
   ·rw[hq]at h2;cases h2;exact⟨h1,a,c,h3,h4⟩
  have r1:=ew hd hq;have c3:=λad cap w hl=>Jl dict ad cap l w hl (yO (va r1.2))
  rw[r1.2]at c3;generalize gZ dict l=X at*;clear e hq c1 r1;go_enter func189,ntmps189
  go_wp2_with fail
  refine(c2 _).mono ?_;rintro e w1 ⟨G1,ad,cap,rfl,S1⟩;go_wp2_with fail
  refine mo (c3 _ _ _ S1) λw2 G2=>?_
  go_wp2_with fail
  go_ret2
  exact⟨rfl,ag G1 G2⟩
theorem MI(s:ByteArray)(w:World)(hs:s.size=8) :
 CB 220 #[.string s] w (.agg (arr (Wa s))):=by
 obtain⟨R2,R3⟩:=ai.two w (λ_=>0) (λ_=>0);have HB:=uv w (.cells (arr λ_=>0) 142) (.cells (arr λ_=>0) 142);rw[<-Zs]at R2 R3 HB;have Hs:=Za hs
 obtain⟨r,hr⟩:∃r,Wa s=r:=⟨_,rfl⟩
 rw[hr];have Hr:Hid (Wm s 8=r):=hr;clear hr hs;go_enter func220,ntmps220
 go_wp2_with fail
 rw[Zs]at R2 R3 HB;rw[Zs];generalize (w.alloc (.cells (arr λ_=>0) 142)).alloc (.cells (arr λ_=>0) 142)=w0 at*
 obtain⟨g1,hg1⟩:∃g1,g1=w.heap.size:=⟨_,rfl⟩
 have hq:Hid (g1<w.heap.size+1/\w.heap.size=g1):=by show _/\_;omega
 generalize w.heap.size+1=g3 at*;clear hg1;have R3':=R3.congr (f':=Wm s 0) (λi _=>by simp[Wm]);go_loopw [5] (λi wr=>∃k:Nat,k<=8/\i=.int .i64 k/\ai wr w.heap.size (λ_=>0)/\ai wr g3 (Wm s k)/\ae w wr) (λi _=>8-(intOf i).toNat)
 case atStart=>exact⟨0,by omega,rfl,R2,R3',HB⟩
 case round =>
  clear R2 R3 R3' HB;obtain⟨k,hk,rfl,R2,R3,HB⟩:=hrel;by_cases hlt:k<8
  ·have hk1:=al (by omega:(k:Int)<8);have hk2:=al (by omega:k<8);have hks:k<s.size:=by have:=Hs.out;omega
   have hk3:(k:Int)<(s.size:Int):=by omega
   obtain⟨x,hx⟩:∃x:Int,(s[k].toNat:Int)=x:=⟨_,rfl⟩
   have hA:Cd.at8 s k=s[k].toNat:=by unfold Cd.at8;rw[ZX s k hks];rfl
   have hA2:=Xf s k;have hx0:0<=x:=by omega
   have hx1:x<=255:=by omega
   obtain⟨H,hH⟩:∃H,Cd.at8 s k/16=H:=⟨_,rfl⟩
   obtain⟨L,hL⟩:∃L,Cd.at8 s k%16=L:=⟨_,rfl⟩
   have e1:x/16=(H:Int):=by omega
   have e2:x%16=(L:Int):=by omega
   have e3:x.tdiv 16=(H:Int):=by rw[Int.tdiv_eq_ediv_of_nonneg hx0];exact e1
   have e4:x.tmod 16=(L:Int):=by rw[Int.tmod_eq_emod_of_nonneg hx0];exact e2
   have hH2:H<16:=by omega
   have hL2:L<16:=by omega
   obtain⟨K2,cV⟩:∃K2,2*k=K2:=⟨_,rfl⟩
   obtain⟨K3,cW⟩:∃K3,2*k+1=K3:=⟨_,rfl⟩
   have hK2:K2<16:=by omega
   have hK3:K3<16:=by omega
   have m2:2*(k:Int)=(K2:Int):=by omega
   have m3:(K2:Int)+1=(K3:Int):=by omega
   have jN:(K2:Int)<16:=by omega
   have jO:(K3:Int)<16:=by omega
   have c1:=R3.cell K2 hK2;have f1:=R3.frozen K2;have S3:=R3.set K2 (H:Int);have S2:=R2.aq (q:=g3) (by have:=hq.out;omega) K2 (.int .i64 (H:Int));have SB:=HB.setCell (p:=⟨g3,K2,none⟩) (by have:=hq.out;show _<=g3;omega) (.int .i64 (H:Int));have c2:=S3.cell K3 hK3;have f2:=S3.frozen K3;have T3:=(S3.set K3 (L:Int)).congr (f':=Wm s (k+1)) (λi _=>by rw[<-cV,<-cW,<-hH,<-hL];exact Yv s k i);have T2:=S2.aq (q:=g3) (by have:=hq.out;omega) K3 (.int .i64 (L:Int));have TB:=SB.setCell (p:=⟨g3,K3,none⟩) (by have:=hq.out;show _<=g3;omega) (.int .i64 (L:Int));clear hA hA2 hH hL e1 e2 cV cW R2 R3 HB S2 S3 SB;go_wp2_with fail
   go_roundw
   case rel=>exact⟨k+1,by omega,by go_num,T2,T3,TB⟩
   case measure=>simp[intOf];omega
  ·obtain rfl:k=8:=by omega
   rw[Hr.out]at R3;have hi1:=Zh r;go_wp2_with (first|refine wpList_load_row rfl 142 _ rfl g3 rfl 142 (arr r) (0,0) _ R3.2 aF rfl hi1 ?_|refine wpList_store_row rfl 142 _ _ rfl w.heap.size (arr r) rfl rfl 142 _ R2.2 hi1 (by rw[Zo,Zo]) (bj _) ?_)
   have U2:=R2.setRow r;exact bodyPost_ret (v:=.agg (arr r)) (results_cell_row results220 _ _ w.heap.size 142 _ (0,0) _ rfl U2.2 aF rfl hi1) rfl ⟨rfl,Zu HB (nl _) _⟩
theorem MJ(s:ByteArray)(w:World)(hs:s.size<=1024) :
 CB 134 #[.string s] w (.string (Bk.enc s)):=by
 have c1:=λw=>Lc s w hs
 have c2:=λw=>JF (Bk.hv s) w
 have c3:=λw=>uq (s.size:Int) w (by omega) (by omega)
 rw[Int.toNat_natCast]at c3;have c4:=λw=>Kx (VH (Bk.hv s)).1 s w (by omega)
 have c5:=λw=>L7 (VH (Bk.hv s)).1 w (yQ (rV s hs))
 have HE:Hid ((⟨(XG (VH (Bk.hv s)).1).toArray⟩:ByteArray)++⟨(VB s.size).toArray⟩++(VO (VH (Bk.hv s)).1 s).1=Bk.enc s):=rfl
 have z1:(⟨(XG (VH (Bk.hv s)).1).toArray⟩:ByteArray).size<=8:=by
  show(XG _).toArray.size<=_;simp[XG,YI]
 have z2:(⟨(VB s.size).toArray⟩:ByteArray).size<=5:=by
  have:=V3 s.size (by omega);show(VB s.size).toArray.size<=_;simpa using this
 have z3:=D6 (VH (Bk.hv s)).1 s;have hiL:=Zh (VH (Bk.hv s)).1;have hb0:(s.size:Int)<=1024:=by omega
 generalize Bk.enc s=R at*;generalize (VO (VH (Bk.hv s)).1 s).1=W at*;generalize (VO (VH (Bk.hv s)).1 s).2=We at*;generalize (⟨(XG (VH (Bk.hv s)).1).toArray⟩:ByteArray)=J at*;generalize (⟨(VB s.size).toArray⟩:ByteArray)=N at*;generalize (VH (Bk.hv s)).1=L at*;generalize (VH (Bk.hv s)).2=E at*;generalize Bk.hv s=C at*;go_enter func134,ntmps134
 go_wp2_with fail
 refine mo (c1 _) λw1 G1=>?_
 go_wp2_with fail
 refine mo (c2 _) λw2 G2=>?_
 have B2:=ag G1 G2;have L3:=ai.new w2 L;have B3:ae w (w2.alloc (.cells (arr L) 142)):=B2.alloc B2.size _;clear G1 G2 B2 c1 c2;go_wp2_with (refine wpList_store_row rfl 142 _ _ rfl w2.heap.size (arr L) rfl rfl 142 _ (heap_alloc_last w2 _) hiL rfl (bj _) ?_;rw[World.setRow_alloc_new])
 generalize w2.alloc (.cells (arr L) 142)=wa at*;generalize w2.heap.size=gl at*;refine mo (c3 _) λw3 G3=>?_
 have L4:=L3.below G3;have B4:=ag B3 G3;clear L3 B3 G3 c3;go_wp2_with (refine wpList_load_row rfl 142 _ rfl gl rfl 142 (arr L) (0,0) _ L4.2 aF rfl hiL ?_)
 refine mo (c4 _) λw4 G4=>?_
 have L5:=L4.below G4;have B5:=ag B4 G4;clear L4 B4 G4 c4;go_wp2_with (refine wpList_load_row rfl 142 _ rfl gl rfl 142 (arr L) (0,0) _ L5.2 aF rfl hiL ?_)
 refine mo (c5 _) λw5 G5=>?_
 have B6:=ag B5 G5;clear L5 B5 G5 c5;go_wp2_with fail
 go_ret
 exact⟨congrArg (λs=>Ending.returned (Value.string s)) HE.out,B6⟩
namespace Bk
def WB(s:ByteArray):ByteArray×Int :=
 if s.size<8 then(⟨#[]⟩,1) else match Zt (s.extract 8 s.size).data.toList with
  |none=>(⟨#[]⟩,1)
  |some (n,k)=>if(VP (Wa (s.extract 0 8)) ((s.extract 8 s.size).extract k (s.extract 8 s.size).size) (n:Nat)).2=0 then((VP (Wa (s.extract 0 8)) ((s.extract 8 s.size).extract k (s.extract 8 s.size).size) (n:Nat)).1,0) else(⟨#[]⟩,1)
theorem aax(h:¬s.size<8)(hq:Zt (s.extract 8 s.size).data.toList=none):WB s=(⟨#[]⟩,1):=by rw[WB,ab h,hq]
theorem yR(h:¬s.size<8)(hq:Zt (s.extract 8 s.size).data.toList=some (n,k)):WB s=if(VP (Wa (s.extract 0 8)) ((s.extract 8 s.size).extract k (s.extract 8 s.size).size) (n:Nat)).2=0 then((VP (Wa (s.extract 0 8)) ((s.extract 8 s.size).extract k (s.extract 8 s.size).size) (n:Nat)).1,0) else(⟨#[]⟩,1):=by rw[WB,ab h,hq]
end Bk
theorem Zr(s:ByteArray)(a b:Nat):(s.extract a b).size=min b s.size-a:=by simp[ByteArray.size_extract]
theorem MK(s:ByteArray)(w:World)(hs:s.size<=140737488355328) :
 CB 190 #[.string s] w (.tuple #[.string (WB s).1,.int .i64 (WB s).2]):=by
 by_cases h8:s.size<8
 ·have e:WB s=(⟨#[]⟩,1):=ax h8;rw[e];have d1:=al (by omega:(s.size:Int)<8);have h':(s.size:Int)<8:=by omega
  clear e h8;go_enter func190,ntmps190
  go_wp2_with fail
  go_ret2
  exact⟨rfl,bR _ _⟩
 ·have d1:=dF (by omega:¬((s.size:Int)<8));have h8':(8:Int)<=(s.size:Int):=by omega
  have vd:8<=s.size:=by omega
  have z8:=Zr s 8 s.size;have z0:=Zr s 0 8
  cases hq:Zt (s.extract 8 s.size).data.toList with
  |none =>
   rw[aax h8 hq];have c1:=λw=>ur (s.extract 8 s.size) w (by omega) hq
   clear hq h8 z8 z0
   have et:∃t,s.extract 8 s.size=t:=⟨_,rfl⟩
   obtain⟨t,et⟩:=et;rw[et]at c1;go_enter func190,ntmps190
   go_wp2_with fail
   refine mo (c1 _) λw1 G=>?_
   go_wp2_with fail
   go_ret2
   exact⟨rfl,G⟩
  |some x =>
   obtain⟨n,k⟩:=x;have hD:=yR h8 hq;have c1:=λw=>ou (s.extract 8 s.size) w n k (by omega) hq
   have c2:=λw=>MI (s.extract 0 8) w (by omega)
   have zz:=Zr (s.extract 8 s.size) k (s.extract 8 s.size).size;have c3:=λw=>Lb (Wa (s.extract 0 8)) ((s.extract 8 s.size).extract k (s.extract 8 s.size).size) (n:Nat) w (by omega)
   clear hq h8 z8 z0 zz;generalize WB s=D at*;have UY:=Zh (Wa (s.extract 0 8));generalize (VP (Wa (s.extract 0 8)) ((s.extract 8 s.size).extract k (s.extract 8 s.size).size) (n:Nat)).1=X at*;generalize (VP (Wa (s.extract 0 8)) ((s.extract 8 s.size).extract k (s.extract 8 s.size).size) (n:Nat)).2=E at*;generalize Wa (s.extract 0 8)=P at*
   obtain⟨t0,e0⟩:∃t,s.extract 0 8=t:=⟨_,rfl⟩
   obtain⟨t,et⟩:∃t,s.extract 8 s.size=t:=⟨_,rfl⟩
   rw[et]at c1 c3;rw[e0]at c2;generalize t.extract k t.size=r at*;by_cases hE:E=0
   ·rw[ax hE]at hD;subst hD;subst hE;go_enter func190,ntmps190
    go_wp2_with fail
    refine mo (c1 _) λw1 G1=>?_
    go_wp2_with fail
    refine mo (c2 _) λw2 G2=>?_
    go_wp2_with fail
    refine mo (c3 _) λw3 G3=>?_
    go_wp2_with fail
    go_ret2
    exact⟨rfl,ag (ag G1 G2) G3⟩
   ·rw[ab hE]at hD;subst hD;have dE:(E != 0)=true:=by simpa using hE
    clear hE;go_enter func190,ntmps190
    go_wp2_with fail
    refine mo (c1 _) λw1 G1=>?_
    go_wp2_with fail
    refine mo (c2 _) λw2 G2=>?_
    go_wp2_with fail
    refine mo (c3 _) λw3 G3=>?_
    go_wp2_with fail
    go_ret2
    exact⟨rfl,ag (ag G1 G2) G3⟩
namespace Bk
def WH(dict b:ByteArray):ByteArray×Int :=
 if 256<dict.size then(⟨#[]⟩,2) else if b.size=0 then(⟨#[]⟩,1) else
 if Cd.at8 b 0=0 then jo (b.extract 1 b.size) else if Cd.at8 b 0=1 then Wv dict (b.extract 1 b.size)
 else if Cd.at8 b 0=2 then(if(WB (b.extract 1 b.size)).2=0 then Wv dict (WB (b.extract 1 b.size)).1 else(⟨#[]⟩,(WB (b.extract 1 b.size)).2)) else(⟨#[]⟩,1)
theorem Ew(h:b.size≠0)(x:UInt8):b.extract 0 1=⟨#[x]⟩↔Cd.at8 b 0=x.toNat:=by
 have hl:0<b.data.size:=by have:b.size=b.data.size:=rfl;omega
 have e:(b.extract 0 1).data.toList=[b.data[0]]:=by
  simp only[ByteArray.data_extract,Array.toList_extract]
  cases b with
  |mk d =>
   obtain⟨l⟩:=d
   cases l with
   |nil=>simp at hl
   |cons a l=>simp
 have e2:Cd.at8 b 0=b.data[0].toNat:=by
  unfold Cd.at8;rw[Array.getElem?_toList,Array.getElem?_eq_getElem hl];rfl
 rw[e2];constructor
 ·intro h9;rw[h9]at e;simp at e;rw[e]
 ·intro h9;apply ByteArray.ext;apply Array.toList_inj.1;rw[e];have:b.data[0]=x:=UInt8.toNat_inj.1 h9;rw[this]
theorem yS(h:b.size≠0)(x:UInt8):((b.extract 0 1).toList == [x])=decide (Cd.at8 b 0=x.toNat):=by
 have ex:[x]=(⟨#[x]⟩:ByteArray).toList:=by rw[ByteArray.toList_eq]
 rw[ex,nN];by_cases h1:Cd.at8 b 0=x.toNat
 ·rw[decide_eq_true h1,decide_eq_true ((Ew h x).2 h1)]
 ·rw[decide_eq_false h1,decide_eq_false (λh9=>h1 ((Ew h x).1 h9))]
end Bk
theorem ML(dict b:ByteArray)(w:World)(hd0:dict.size<=140737488355328)(hb:b.size<=140737488355328) :
 CB 140 #[.string dict,.string b] w (.tuple #[.string (WH dict b).1,.int .i64 (WH dict b).2]):=by
 by_cases hd:256<dict.size
 ·have e:WH dict b=(⟨#[]⟩,2):=ax hd;rw[e];have d1:=al (by omega:256<(dict.size:Int));have h':256<(dict.size:Int):=by omega
  clear e hd;go_enter func140,ntmps140
  go_wp2_with fail
  go_ret2
  exact⟨rfl,bR _ _⟩
 ·have d1:=dF (by omega:¬(256<(dict.size:Int)));have hd':(dict.size:Int)<=256:=by omega
  by_cases h0:b.size=0
  ·have e:WH dict b=(⟨#[]⟩,1):=by rw[WH,ab hd,ax h0]
   rw[e]
   obtain rfl:b=⟨#[]⟩:=by
    apply ByteArray.ext;exact Array.eq_empty_of_size_eq_zero h0
   clear e hd h0;go_enter func140,ntmps140
   go_wp2_with fail
   go_ret2
   exact⟨rfl,bR _ _⟩
  ·have hne:b.toList.isEmpty=false:=by
    rw[ByteArray.toList_eq,Bool.eq_false_iff];intro e;rw[List.isEmpty_iff]at e;apply h0;have:=congrArg List.length e;rw[Xw]at this;simpa using this
   have hU:WH dict b=if Cd.at8 b 0=0 then jo (b.extract 1 b.size) else if Cd.at8 b 0=1 then Wv dict (b.extract 1 b.size) else if Cd.at8 b 0=2 then(if(WB (b.extract 1 b.size)).2=0 then Wv dict (WB (b.extract 1 b.size)).1 else(⟨#[]⟩,(WB (b.extract 1 b.size)).2)) else(⟨#[]⟩,1):=by rw[WH,ab hd,ab h0]
   have k0:=yS h0 0;have k1:=yS h0 1;have k2:=yS h0 2;have hs1:=Zr b 1 b.size;have hb1:(1:Int)<=(b.size:Int):=by omega
   have gI:1<=b.size:=by omega
   have hbs:(b.extract 1 b.size).size<=140737488355328:=by omega
   rw[hU];clear hU hs1 h0;by_cases e0:Cd.at8 b 0=0
   ·rw[ax e0];have c1:=λw=>MH (b.extract 1 b.size) w hbs
    rw[decide_eq_true (by exact e0)]at k0;generalize (jo (b.extract 1 b.size)).1=X at*;generalize (jo (b.extract 1 b.size)).2=E at*;clear k1 k2 e0 hd;go_enter func140,ntmps140
    go_wp2_with fail
    refine mo (c1 _) λw1 G=>?_
    go_wp2_with fail
    go_ret2
    exact⟨rfl,G⟩
   ·rw[ab e0];rw[decide_eq_false (by exact e0)]at k0;by_cases e1:Cd.at8 b 0=1
    ·rw[ax e1];have c1:=λw=>Eu dict (b.extract 1 b.size) w (by omega)
     rw[decide_eq_true (by exact e1)]at k1;generalize (Wv dict (b.extract 1 b.size)).1=X at*;generalize (Wv dict (b.extract 1 b.size)).2=E at*;clear k2 e0 e1 hd;go_enter func140,ntmps140
     go_wp2_with fail
     refine mo (c1 _) λw1 G=>?_
     go_wp2_with fail
     go_ret2
     exact⟨rfl,G⟩
    ·rw[ab e1];rw[decide_eq_false (by exact e1)]at k1;by_cases e2:Cd.at8 b 0=2
     ·rw[ax e2];rw[decide_eq_true (by exact e2)]at k2;have c1:=λw=>MK (b.extract 1 b.size) w hbs
      have c2:=λw=>Eu dict (WB (b.extract 1 b.size)).1 w (by omega)
      by_cases hE:(WB (b.extract 1 b.size)).2=0
      ·rw[ax hE];rw[hE]at c1;generalize (Wv dict (WB (b.extract 1 b.size)).1).1=X at*;generalize (Wv dict (WB (b.extract 1 b.size)).1).2=E at*;generalize (WB (b.extract 1 b.size)).1=Y at*;clear e0 e1 e2 hd hE;go_enter func140,ntmps140
       go_wp2_with fail
       refine mo (c1 _) λw1 G1=>?_
       go_wp2_with fail
       refine mo (c2 _) λw2 G2=>?_
       go_wp2_with fail
       go_ret2
       exact⟨rfl,ag G1 G2⟩
      ·rw[ab hE];generalize (WB (b.extract 1 b.size)).1=Y at*;generalize (WB (b.extract 1 b.size)).2=E at*;have dE:(E != 0)=true:=by simpa using hE
       clear e0 e1 e2 hd hE c2;go_enter func140,ntmps140
       go_wp2_with fail
       refine mo (c1 _) λw1 G1=>?_
       go_wp2_with fail
       go_ret2
       exact⟨rfl,G1⟩
     ·rw[ab e2];rw[decide_eq_false (by exact e2)]at k2;clear e0 e1 e2 hd;go_enter func140,ntmps140
      go_wp2_with fail
      go_ret2
      exact⟨rfl,bR _ _⟩
namespace Bk
def XH(xs:List ByteArray)(i:Nat):ByteArray:=xs.getD i ⟨#[]⟩
def dU(xs:List ByteArray):Nat->ByteArray
 |0=>XH xs 0
 |i+1=>if(XH xs i).size<(dU xs i).size then XH xs i else dU xs i
theorem Ex(xs:List ByteArray):dU xs 1=XH xs 0:=by rw[dU,dU,ab (by omega)]
def Yw(w:World)(g:Nat)(xs:List ByteArray):Prop:=g<w.heap.size/\∀i,i<xs.length->w.cell? ⟨g,i,none⟩=some (.string (XH xs i))
theorem Yw.below{g:Nat}(h:Yw w g xs)(hb:ae w w'):Yw w' g xs:=⟨Nat.lt_of_lt_of_le h.1 hb.size,λi hi=>by rw[<-h.2 i hi];exact hb.cell (p:=⟨g,i,none⟩) h.1⟩
theorem MM{B:Nat}(h:∀i,(XH xs i).size<=B):∀i,(dU xs i).size<=B:=by
 intro i
 induction i with
 |zero=>exact h 0
 |succ i ih =>
  rw[dU];split
  ·exact h i
  ·exact ih
end Bk
theorem MN(a b:ByteArray)(w:World)(ha:a.size<=140737488355328)(hb:b.size<=140737488355328) :
 CB 136 #[.string a,.string b] w (.int .i64 ((a.size:Int)-(b.size:Int))):=by
 have ha':(a.size:Int)<=140737488355328:=by omega
 have hb':(b.size:Int)<=140737488355328:=by omega
 go_enter func136,ntmps136
 go_wp2_with fail
 go_ret
 exact⟨rfl,bR _ _⟩
theorem Ey(xs:List ByteArray)(g cap:Nat)(w:World)(hx:Yw w g xs)(hn:1<=xs.length)(hn2:xs.length<=1000)(hB:∀i,(XH xs i).size<=1000000) :
 CB 135 #[.slice (some ⟨g,0,none⟩) xs.length cap,.func (.func 136) #[] #[]] w (.string (dU xs xs.length)):=by
 have HX:=Za λw' (h:Yw w' g xs)=>h.2
 have c0:=HX.out w hx 0 (by omega);have HB:=Za hB
 obtain⟨r,hr⟩:∃r,dU xs xs.length=r:=⟨_,rfl⟩
 rw[hr];have Hr:=Za hr;have mg:=Za (Bk.Ex xs);have dn:decide ((xs.length:Int)<1)=false:=dF (by omega);have UZ:decide (xs.length<1)=false:=dF (by omega);have hn':(1:Int)<=(xs.length:Int):=by omega
 have hn3:(0:Int)<(xs.length:Int):=by omega
 clear hr hB;go_enter func135,ntmps135
 go_wp2_with fail
 go_loopw [5,6] (λm i wr=>∃k:Nat,1<=k/\k<=xs.length/\i=.int .i64 k/\m=.string (dU xs k)/\Yw wr g xs/\ae w wr) (λ_ i _=>xs.length-(intOf i).toNat)
 case atStart=>exact⟨1,by omega,hn,rfl,by rw[mg.out],hx,bR _ _⟩
 case round =>
  clear c0 hx;obtain⟨k,hk1,hk2,rfl,rfl,hx,B1⟩:=hrel;by_cases hlt:k<xs.length
  ·have d1:=al (by omega:(k:Int)<(xs.length:Int));have d1':=al (by omega:k<xs.length);have hki:(k:Int)<(xs.length:Int):=by omega
   have c1:=HX.out wr hx k hlt;have z1:=HB.out k;have z2:=Bk.MM HB.out k;have c2:=λw=>MN (XH xs k) (dU xs k) w (by omega) (by omega)
   have HN:Hid (dU xs (k+1)=if(XH xs k).size<(dU xs k).size then XH xs k else dU xs k):=rfl
   obtain⟨X,yT⟩:∃X,XH xs k=X:=⟨_,rfl⟩
   rw[yT]at c1 z1 c2 HN;have gJ:=Za yT;clear yT;generalize dU xs k=M at*;by_cases hs:X.size<M.size
   ·have d2:decide ((X.size:Int)-(M.size:Int)<0)=true:=al (by omega);have kN:=Za (HN.out.trans (ax hs));clear HN;go_wp2_with fail
    refine mo (c2 _) λw2 G=>?_
    have x2:=hx.below G;have B2:=ag B1 G;have c3:=HX.out w2 x2 k hlt;rw[show XH xs k=X from gJ.out]at c3;clear hx B1 G c2 c1;go_wp2_with fail
    go_roundw
    case rel=>exact⟨k+1,by omega,by omega,by go_num,by rw[kN.out],x2,B2⟩
    case measure=>simp[intOf];omega
   ·have d2:decide ((X.size:Int)-(M.size:Int)<0)=false:=dF (by omega);have kN:=Za (HN.out.trans (ab hs));clear HN;go_wp2_with fail
    refine mo (c2 _) λw2 G=>?_
    have x2:=hx.below G;have B2:=ag B1 G;clear hx B1 G c2 c1;go_wp2_with fail
    go_roundw
    case rel=>exact⟨k+1,by omega,by omega,by go_num,by rw[kN.out],x2,B2⟩
    case measure=>simp[intOf];omega
  ·obtain rfl:k=xs.length:=by omega
   have d1:decide ((xs.length:Int)<(xs.length:Int))=false:=by simp
   have d1':decide (xs.length<xs.length)=false:=by simp
   rw[Hr.out];go_wp2_with fail
   go_ret
   exact⟨rfl,B1⟩
open Go.Maps Go.ChangeShapes
theorem MO{B:Nat}(h:PS w bm gp ga gf gl base s r a f v l)(hf:¬f<a) :
 Calls prog 177 #[.pointer (some ⟨gf,0,none⟩),.pointer (some ⟨ga,0,none⟩),.pointer (some ⟨gl,0,none⟩),.pointer (some ⟨gp,0,none⟩)] w λe w'=>e=.returned (.tuple #[])/\Below B w w'/\∃v',PS w' bm gp ga gf gl base s r a f v' (l++Wi s f a):=by
 have hca:=h.ca;have hcf:=h.cf;have d1:=dF (by omega:¬((f:Int)<(a:Int)));have d1':=dF (by omega:¬(f<a));have H:=Za h;clear h;go_enter func177,ntmps177
 go_wp2_with fail
 go_end0
 refine⟨rfl,bR _ _,v,?_⟩;unfold Wi;rw[ab hf,List.append_nil];exact H.out
theorem MP{B:Nat}(O:Ord B bm gp ga gf gl base)(h:PS w bm gp ga gf gl base s r a f v l)(hf:f<a)(ha:a<=s.size)(hs:s.size<=2000)(hl:l.length<=2000) :
 Calls prog 177 #[.pointer (some ⟨gf,0,none⟩),.pointer (some ⟨ga,0,none⟩),.pointer (some ⟨gl,0,none⟩),.pointer (some ⟨gp,0,none⟩)] w λe w'=>e=.returned (.tuple #[])/\Below B w w'/\∃v',PS w' bm gp ga gf gl base s r a f v' (l++Wi s f a):=by
 obtain⟨i0,hi,hz0,hz1,hz2⟩:=info_parts rz;have hca:=h.ca;have hcf:=h.cf;have hcl:=h.cl;have hcp:=h.past.c0;have d1:=al (by omega:(f:Int)<(a:Int));have d1':=al (by omega:f<a);have hsl:=uE s (f:Int) (a:Int) f a rfl rfl (by omega) ha;have hbs:=h.bs;obtain⟨o1,o2,o3,o4,o5,o6⟩:=O
 have O:Hid (Ord B bm gp ga gf gl base):=⟨o1,o2,o3,o4,o5,o6⟩
 have H:=Za h;have dP:Wi s f a=[⟨s.extract f a,0,0⟩]:=by unfold Wi;rw[ax hf]
 have HB:=Za dP;clear h dP;have U0:gf≠gl:=by omega
 have U6:ga≠gl:=by omega
 have U8:gp≠gl:=by omega
 have Va:gl≠gf:=by omega
 have Vb:gl≠ga:=by omega
 have Vc:gl≠gp:=by omega
 have xs:(s.extract f a).size<=281474976710656:=XE (by omega);go_enter func177,ntmps177
 go_wp2_with fail
 have HL:Hid (∀(w1:World) (g cp:Nat) (w2:World) (T:TypeId),ae w w1->PS w1 bm gp ga gf gl base s r a f v l->(w1.alloc (.cells #[.string (s.extract f a),.int .i64 0,.int .i64 0] T)).grownBy w2 v.ownBlock →
  w2.ownsRow base 177 3 (.slice (some ⟨g,0,none⟩) (l.length+1) cp) (l.length+1) (tcs l++[.string (s.extract f a),.int .i64 0,.int .i64 0])->(v.ownBlock=some g\/g=(w1.alloc (.cells #[.string (s.extract f a),.int .i64 0,.int .i64 0] T)).heap.size) →
  Hid (Below B w (w2.setCell ⟨gl,0,none⟩ (.slice (some ⟨g,0,none⟩) (l.length+1) cp))/\PS (w2.setCell ⟨gl,0,none⟩ (.slice (some ⟨g,0,none⟩) (l.length+1) cp)) bm gp ga gf gl base s r a f (.slice (some ⟨g,0,none⟩) (l.length+1) cp) (l++[⟨s.extract f a,0,0⟩]))/\w2.cell? ⟨gl,0,none⟩=some v/\w2.frozen? ⟨gl,0,none⟩=false):=by
  intro w1 g cp w2 T hb hp hg hown hat;have hg1:=(World.grownBy_alloc w1 _ _).trans hg;obtain⟨q1,q2,q3⟩:=hp.laid (t:=⟨s.extract f a,0,0⟩) O.out hown hg1 (hat.imp id (λe=>by rw[e];simp));refine⟨⟨?_,q1⟩,q2,q3⟩;have h1:Below B w w1:=hb.mono (by omega);have h2:=h1.grown hg1 (by have:=hp.bs;omega) (λk hk=>by have:=(hp.own.lt k hk).1;omega);exact h2.setCell (by show B<=gl;omega) _
 go_region_law (first|(refine gF _ rfl _ _ 146 rfl base 177 i0 (.agg #[.string ⟨#[]⟩,.int .i64 0,.int .i64 0]) 3 32 fu hi hz0 hz1 hz2 rfl (by decide) v _ _ rfl (H1.out.own.alloc _) ⟨w1.heap.size,0,none⟩ 1 1 [.string (s.extract f a),.int .i64 0,.int .i64 0] rfl rfl (nJ _ _ _ _ _) (fA _ _ _ rfl rfl rfl) (by decide) (fb (by omega)) (by omega) (by simp;omega) _ rfl ?_;intro g cp w2 hown2 hgrow2 sj hlt2;obtain⟨HP,k1,k2⟩:=HL.out w1 g cp w2 _ hb H1.out hgrow2 hown2 sj;clear hgrow2 hown2 sj hlt2)|(go_simp;go_at_call 73;refine(ZY _ _ xs).mono ?_;rintro e w1 ⟨rfl,hb⟩;replace hb:ae w w1:=(by exact Below.trans (bR _ _).drew hb);have H1:Hid (PS w1 bm gp ga gf gl base s r a f v l):=H.out.below O.out hb;have sn:=H1.out.cl;have MQ:∀o,(w1.alloc o).cell? ⟨gl,0,none⟩=some v:=λo=>(gW _ _ _ (cL w1 _ sn)).trans sn;have MR:=H1.out.bs))
 all_goals
  go_wp2_with fail
  go_end0
  exact⟨rfl,HP.out.1,_,by rw[HB.out];exact HP.out.2⟩
theorem Ez{B:Nat}(O:Ord B bm gp ga gf gl base)(h:PS w bm gp ga gf gl base s r a f v l)(ha:a<=s.size)(hs:s.size<=2000)(hl:l.length<=2000) :
 Calls prog 177 #[.pointer (some ⟨gf,0,none⟩),.pointer (some ⟨ga,0,none⟩),.pointer (some ⟨gl,0,none⟩),.pointer (some ⟨gp,0,none⟩)] w λe w'=>e=.returned (.tuple #[])/\Below B w w'/\∃v',PS w' bm gp ga gf gl base s r a f v' (l++Wi s f a):=by
 by_cases hf:f<a
 ·exact MP O h hf ha hs hl
 ·exact MO h hf
theorem MS(dict text:ByteArray)(w:World)(hd:256<dict.size\/512<text.size) :
 CB 132 #[.string dict,.string text] w (.tuple #[.slice none 0 0,.int .i64 2]):=by
 by_cases h1:256<dict.size
 ·have d1:=al (by omega:(256:Int)<(dict.size:Int));have d1':(256:Int)<(dict.size:Int):=by omega
  go_enter func132,ntmps132
  go_wp2_with fail
  go_ret2
  exact⟨rfl,bR _ _⟩
 ·have d1:=dF (by omega:¬((256:Int)<(dict.size:Int)));have d1':(dict.size:Int)<=256:=by omega
  have d2:=al (by omega:(512:Int)<(text.size:Int));have eJ:(512:Int)<(text.size:Int):=by omega
  go_enter func132,ntmps132
  go_wp2_with fail
  go_ret2
  exact⟨rfl,bR _ _⟩
theorem MT(w:World)(base:Nat)(hb:w.heap.size<base)(No:Nat->Prop)(s:ByteArray):∃D:DataW Value,IsMap D/\(w.alloc (.map #[] 0)).ownsGroups prog 9 base 3 .i64 w.heap.size 0 D/\(w.alloc (.map #[] 0)).Shuns w.heap.size No/\pR D s 0:=by
 refine⟨.map [],isMap_empty,⟨#[],0,(MapKept.heap_alloc w _).1,⟨by simp,MapKept.stamped_empty 0,by simp⟩,nl _,rfl,hb,by simp,by simp⟩,World.Shuns_made w No,?_⟩;intro k;rfl
theorem MU(w:World)(s:ByteArray)(d:Nat)(T1 T2 T3 T4:TypeId) :
 PS (((((w.alloc (.map #[] 0)).alloc (.cells #[.string s,.map (some w.heap.size),.int .i64 0] T1)).alloc (.cells #[.int .i64 (d:Nat)] T2)).alloc (.cells #[.int .i64 (d:Nat)] T3)).alloc (.cells #[.slice none 0 0] T4)) w.heap.size (w.heap.size+1) (w.heap.size+1+1) (w.heap.size+1+1+1) (w.heap.size+1+1+1+1) (w.heap.size+1+1+1+1+1) s 0 d d (.slice none 0 0) []:=by
 have hs:∀(u:World) (o:Obj),(u.alloc o).heap.size=u.heap.size+1:=λu o=>by simp
 obtain⟨W1,hW1⟩:∃W1,W1=w.alloc (.map #[] 0):=⟨_,rfl⟩
 have s1:W1.heap.size=w.heap.size+1:=by rw[hW1,hs]
 have hmap:=MT w (w.heap.size+1+1+1+1+1) (by omega) (λg=>(Value.slice none 0 0).ownBlock=some g) s;rw[<-hW1]at hmap |-
 clear hW1
 obtain⟨W2,hW2⟩:∃W2,W2=W1.alloc (.cells #[.string s,.map (some w.heap.size),.int .i64 0] T1):=⟨_,rfl⟩
 have s2:W2.heap.size=w.heap.size+1+1:=by rw[hW2,hs,s1]
 have b2:ae W1 W2:=by rw[hW2];exact(bR _ _).alloc (nl _) _
 have c20:W2.cell? ⟨w.heap.size+1,0,none⟩=some (.string s):=by rw[hW2,<-s1,World.cell?_alloc_mark];rfl
 have c21:W2.cell? ⟨w.heap.size+1,1,none⟩=some (.map (some w.heap.size)):=by rw[hW2,<-s1,World.cell?_alloc_mark];rfl
 have MV:W2.cell? ⟨w.heap.size+1,2,none⟩=some (.int .i64 ((0:Nat):Int)):=by rw[hW2,<-s1,World.cell?_alloc_mark];rfl
 have f22:W2.frozen? ⟨w.heap.size+1,2,none⟩=false:=by rw[hW2,<-s1,World.frozen?_alloc_mark];simp
 rw[<-hW2];clear hW2
 obtain⟨W3,hW3⟩:∃W3,W3=W2.alloc (.cells #[.int .i64 (d:Nat)] T2):=⟨_,rfl⟩
 have s3:W3.heap.size=w.heap.size+1+1+1:=by rw[hW3,hs,s2]
 have b3:ae W2 W3:=by rw[hW3];exact(bR _ _).alloc (nl _) _
 have c3:W3.cell? ⟨w.heap.size+1+1,0,none⟩=some (.int .i64 (d:Nat)):=by rw[hW3,<-s2,World.cell?_alloc_mark];rfl
 have f3:W3.frozen? ⟨w.heap.size+1+1,0,none⟩=false:=by rw[hW3,<-s2,World.frozen?_alloc_mark];simp
 rw[<-hW3];clear hW3
 obtain⟨W4,qb⟩:∃W4,W4=W3.alloc (.cells #[.int .i64 (d:Nat)] T3):=⟨_,rfl⟩
 have s4:W4.heap.size=w.heap.size+1+1+1+1:=by rw[qb,hs,s3]
 have b4:ae W3 W4:=by rw[qb];exact(bR _ _).alloc (nl _) _
 have c4:W4.cell? ⟨w.heap.size+1+1+1,0,none⟩=some (.int .i64 (d:Nat)):=by rw[qb,<-s3,World.cell?_alloc_mark];rfl
 have f4:W4.frozen? ⟨w.heap.size+1+1+1,0,none⟩=false:=by rw[qb,<-s3,World.frozen?_alloc_mark];simp
 rw[<-qb];clear qb
 obtain⟨W5,qc⟩:∃W5,W5=W4.alloc (.cells #[.slice none 0 0] T4):=⟨_,rfl⟩
 have s5:W5.heap.size=w.heap.size+1+1+1+1+1:=by rw[qc,hs,s4]
 have b5:ae W4 W5:=by rw[qc];exact(bR _ _).alloc (nl _) _
 have c5:W5.cell? ⟨w.heap.size+1+1+1+1,0,none⟩=some (.slice none 0 0):=by rw[qc,<-s4,World.cell?_alloc_mark];rfl
 have f5:W5.frozen? ⟨w.heap.size+1+1+1+1,0,none⟩=false:=by rw[qc,<-s4,World.frozen?_alloc_mark];simp
 rw[<-qc];clear qc;have yU:=b4.trans (b5.mono (by omega));have so:=b3.trans (yU.mono (by omega));have b25:=b2.trans (so.mono (by omega));obtain⟨D,hm,ho,hsh,hr⟩:=hmap
 have hg:W1.grownBy W5 none:=⟨b25.os,b25.tape,b25.output,b25.size,λk hk _=>b25.block k hk⟩
 refine⟨⟨?_,?_,?_,?_,by omega,by omega,by omega,D,hm,ho.kept hg (by simp) (λes clock _ x _=>by cases x.val.ownBlock<;>simp),hsh.kept hg (by omega) (by simp),hr⟩,?_,?_,?_,?_,c5,f5,World.ownsRow_nil _ _ _ _⟩
 ·exact(so.cell (by show w.heap.size+1<_;omega)).trans c20
 ·exact(so.cell (by show w.heap.size+1<_;omega)).trans c21
 ·exact(so.cell (by show w.heap.size+1<_;omega)).trans MV
 ·exact(so.frozen (by show w.heap.size+1<_;omega)).trans f22
 ·exact(yU.cell (by show w.heap.size+1+1<_;omega)).trans c3
 ·exact(yU.frozen (by show w.heap.size+1+1<_;omega)).trans f3
 ·exact(b5.cell (by show w.heap.size+1+1+1<_;omega)).trans c4
 ·exact(b5.frozen (by show w.heap.size+1+1+1<_;omega)).trans f4
theorem five(h:PS (w.setCell ⟨ga,0,none⟩ (.int .i64 ((a+n:Nat):Int))) bm gp ga gf gl base s r (a+n) f v l) :
 (w.setCell ⟨ga,0,none⟩ (.int .i64 ((a:Int)+(n:Int)))).cell? ⟨ga,0,none⟩=some (.int .i64 ((a:Int)+(n:Int)))/\(w.setCell ⟨ga,0,none⟩ (.int .i64 ((a:Int)+(n:Int)))).cell? ⟨gf,0,none⟩=some (.int .i64 (f:Nat))/\(w.setCell ⟨ga,0,none⟩ (.int .i64 ((a:Int)+(n:Int)))).frozen? ⟨gf,0,none⟩=false :=
 ⟨h.ca,h.cf,h.ff⟩
theorem MW(w:World)(o1 o2 o3 o4 o5:Obj):ae w (((((w.alloc o1).alloc o2).alloc o3).alloc o4).alloc o5) :=
 (((((bR w.heap.size w).alloc (nl _) o1).alloc (by simp) o2).alloc (by simp;omega) o3).alloc (by simp;omega) o4).alloc (by simp;omega) o5
theorem MX(dict text:ByteArray)(w:World)(hd:dict.size<=256)(ht:text.size<=512) :
 Calls prog 132 #[.string dict,.string text] w λe w'=>ae w w'/\∃ad cap,e=.returned (.tuple #[.slice ad (Tk.P (dict++text) dict.size dict.size).length cap,.int .i64 0])/\cJ w' ad (Tk.P (dict++text) dict.size dict.size):=by
 have d1:=dF (by omega:¬((256:Int)<(dict.size:Int)));have d1':(dict.size:Int)<=256:=by omega
 have d2:=dF (by omega:¬((512:Int)<(text.size:Int)));have eJ:(text.size:Int)<=512:=by omega
 have hmm:=@run_makeMap prog;obtain⟨i0,hi,hz0,hz1,hz2⟩:=info_parts rz;go_enter func132,ntmps132
 go_wp2_with fail
 have hst:=MU w (dict++text) dict.size 188 3 3 146;have EA:=MW w (.map #[] 0) (.cells #[.string (dict++text),.map (some w.heap.size),.int .i64 0] 188) (.cells #[.int .i64 (dict.size:Nat)] 3) (.cells #[.int .i64 (dict.size:Nat)] 3) (.cells #[.slice none 0 0] 146)
 have O:Hid (Ord w.heap.size w.heap.size (w.heap.size+1) (w.heap.size+1+1) (w.heap.size+1+1+1) (w.heap.size+1+1+1+1) (w.heap.size+1+1+1+1+1)):=⟨by omega,by omega,by omega,by omega,by omega,by omega⟩
 have hsz:(dict++text).size=dict.size+text.size:=Xc _ _;generalize hs0:dict++text=s at*;have hs1:s.size<=2000:=by omega
 have hds:dict.size<=s.size:=by omega
 have lJ:=Za hs0;clear hsz hs0 hmm d1 d1' d2 eJ;generalize hd0:dict.size=d at*;have HD0:=Za hd0;clear hd0;generalize w.heap.size+1+1+1+1+1=base at*;generalize w.heap.size+1+1+1+1=gl at*;generalize w.heap.size+1+1+1=gf at*;generalize w.heap.size+1+1=ga at*;generalize w.heap.size+1=gp at*;go_loopw [11,12] (λ_ _ wr=>∃(r a f:Nat) (v:Value) (l:List Tk.T),PS wr w.heap.size gp ga gf gl base s r a f v l/\r<=a/\f<=a/\a<=s.size/\l.length<=f/\Hid (l++Tk.P s a f=Tk.P s d d)/\ae w wr) (λ_ _ wr=>s.size-rF wr ⟨ga,0,none⟩)
 case atStart=>exact⟨0,d,d,.slice none 0 0,[],hst,by omega,by omega,hds,by simp,rfl,EA⟩
 case round =>
  clear hst EA;obtain⟨r,a,f,v,l,h,hra,hfa,has,hlf,hP,G⟩:=hrel;have H:=Za h;have hca:=h.ca;have hc0:=h.past.c0;have eZ:=Za λg (hg:v.ownBlock=some g)=>(h.own.lt g hg).2
  have hws:=G.size;clear h;by_cases hend:a<s.size
  ·have d3:=al (by omega:(a:Int)<(s.size:Int));have nH:=al (by omega:a<s.size);rcases JV s.data.toList a with⟨hb1,hb2⟩|⟨hb1,hb2⟩
   ·have HN:Hid (l++Tk.P s (a+1) f=Tk.P s d d):=by
     show _=_;rw[<-hP.out,YZ hend hb1]
    have HZ:=Za hb2;clear hb1 hb2 hP;go_wp2_with (first|(go_at_call 178;go_must (refine(Df a H.out.past eZ.out hra has hs1).mono ?_;rintro e w1 ⟨rfl,hk1,r1,hr1,hr2,hr3,hp1⟩;have H1:Hid (PS w1 w.heap.size gp ga gf gl base s r1 a f v l):=H.out.reach O.out hk1 hp1;have yV:=H1.out.ca;have iM:Hid (Below w.heap.size wr w1):=hk1.below (by have:=O.out.p;omega) (nl _) (by have:=O.out.p;have:=O.out.a;have:=O.out.f;have:=O.out.l;have:=O.out.s;omega) hws;have HR3:Hid (a+3<=s.size->r1=a):=hr3;clear hk1 hp1 hr3))|(go_at_call 179;go_must (refine(De a H1.out.past HR3.out has hs1).mono ?_;rintro e w2 ⟨rfl,k2,hw2⟩;rw[HZ.out];have HB2:Hid (ae w1 w2):=(by show Below _ _ _;rw[hw2];exact below_drewN (bR _ _) _);have H2:Hid (PS w2 w.heap.size gp ga gf gl base s r1 a f v l):=H1.out.below O.out HB2.out;have yW:=H2.out.ca;have yX:=H2.out.fa;clear hw2)))
    have ve:=(G.trans iM.out).trans (HB2.out.mono (nt hws iM.out.size));have hga:w.heap.size<=ga:=by have:=O.out.p;have:=O.out.a;omega
    go_roundw
    case rel=>exact⟨r1,a+1,f,v,l,H2.out.setAt O.out (a+1),by omega,by omega,by omega,hlf,HN,ve.setCell hga _⟩
    case measure =>
     have hx:(w2.setCell ⟨ga,0,none⟩ (.int .i64 ((a:Int)+1))).cell? ⟨ga,0,none⟩=some (.int .i64 ((a+1:Nat):Int)):=(H2.out.setAt O.out (a+1)).ca;unfold rF;rw[hx,hca];simp[intOf];omega
   ·obtain⟨far,n,hfn⟩:∃far n,YJ s.data.toList a=(far,n):=⟨_,_,rfl⟩
    have kO:=Y0 s.data.toList a;rw[hfn]at kO hb1 hb2;simp only at kO hb1;have hl:s.data.toList.length=s.size:=by simp
    have sq:Wz s.data.toList a<=s.size-a/\Wz s.data.toList a<=64:=by unfold Wz;omega
    have MY:n<=64:=by omega
    have han:a+n<=s.size:=by omega
    have de:far<=a:=by
     rcases kO.2 with e|e
     ·have:=congrArg Prod.fst e;simp at this;omega
     ·omega
    have HN:Hid ((l++Wi s f a)++[⟨⟨#[]⟩,(far:Nat),(n:Nat)⟩]++Tk.P s (a+n) (a+n)=Tk.P s d d):=by
     show _=_;rw[<-hP.out,xE hend (by rw[hfn];simp;omega),hfn];simp
    have dP:(l++Wi s f a).length<=a:=by
     rw[List.length_append];unfold Wi;split<;>simp<;>omega
    have HZ:=Za hb2;have d4:=dF (by omega:¬((n:Int)<3));have sr:=dF (by omega:¬(n<3));have hwr:IntKind.i64.wrap ((a:Int)+(n:Int))=(a:Int)+(n:Int):=IntWalk.i64_in _ ⟨by omega,by omega⟩;clear hb2 hP hfn kO sq hl
    obtain⟨l3,hl3⟩:∃l3,l++Wi s f a=l3:=⟨_,rfl⟩
    rw[hl3]at HN dP;have yK:=Za hl3;clear hl3;go_wp2_with (first|(go_at_call 178;go_must (refine(Df a H.out.past eZ.out hra has hs1).mono ?_;rintro e w1 ⟨rfl,hk1,r1,hr1,hr2,hr3,hp1⟩;have H1:Hid (PS w1 w.heap.size gp ga gf gl base s r1 a f v l):=H.out.reach O.out hk1 hp1;have yV:=H1.out.ca;have iM:Hid (Below w.heap.size wr w1):=hk1.below (by have:=O.out.p;omega) (nl _) (by have:=O.out.p;have:=O.out.a;have:=O.out.f;have:=O.out.l;have:=O.out.s;omega) hws;have HR3:Hid (a+3<=s.size->r1=a):=hr3;clear hk1 hp1 hr3))|(go_at_call 179;go_must (refine(De a H1.out.past HR3.out has hs1).mono ?_;rintro e w2 ⟨rfl,k2,hw2⟩;rw[HZ.out];have HB2:Hid (ae w1 w2):=(by show Below _ _ _;rw[hw2];exact below_drewN (bR _ _) _);have H2:Hid (PS w2 w.heap.size gp ga gf gl base s r1 a f v l):=H1.out.below O.out HB2.out;have yW:=H2.out.ca;have yX:=H2.out.fa;clear hw2))|(go_at_call 177;go_must (refine(Ez O.out H2.out has hs1 (by omega)).mono ?_;rintro e w3 ⟨rfl,hb3,v3,h3⟩;rw[yK.out]at h3;have H3:Hid (PS w3 w.heap.size gp ga gf gl base s r1 a f v3 l3):=h3;have oL:=h3.cl;have HB3:Hid (Below w.heap.size w2 w3):=hb3;have MZ:=h3.bs;have hl3:∀o,(w3.alloc o).cell? ⟨gl,0,none⟩=some v3:=λo=>(gW _ _ _ (cL w3 _ oL)).trans oL;clear h3 hb3))|(at_builtin;go_must (refine kd _ rfl _ _ 146 rfl base 177 i0 (.agg #[.string ⟨#[]⟩,.int .i64 0,.int .i64 0]) 3 32 fu hi hz0 hz1 hz2 rfl (by decide) v3 _ _ rfl (H3.out.own.alloc _) ⟨w3.heap.size,0,none⟩ 1 1 [.string ⟨#[]⟩,.int .i64 (far:Nat),.int .i64 (n:Nat)] rfl rfl (nJ _ _ _ _ _) (fA _ _ _ rfl rfl rfl) (by decide) (fb (by omega)) (by omega) (by simp;omega) _ rfl ?_;intro g cp w4 hown4 hgrow4 yY hlt4;obtain⟨p4,c4,f4⟩:=H3.out.laid (t:=⟨⟨#[]⟩,(far:Nat),(n:Nat)⟩) O.out hown4 ((World.grownBy_alloc w3 _ _).trans hgrow4) (yY.imp id (λe=>by rw[e];simp));have H4:Hid _:=p4;have M0:=p4.ca;have M1:=p4.fa;have p5:=p4.setAt O.out (a+n);have H5:Hid _:=p5;obtain⟨kg,M3,M4⟩:=five p5;clear p4 p5)))
    have ve:=(G.trans iM.out).trans (HB2.out.mono (nt hws iM.out.size))
    have HB4:=((ve.trans HB3.out).grown ((World.grownBy_alloc w3 _ _).trans hgrow4) (nt ve.size HB3.out.size) (λk hk=>by have:=(H3.out.own.lt k hk).1;have:=O.out.p;have:=O.out.a;have:=O.out.f;have:=O.out.l;have:=O.out.s;omega))
    have hga:w.heap.size<=ga:=by have:=O.out.p;have:=O.out.a;omega
    have hgf:w.heap.size<=gf:=by have:=O.out.f;omega
    have hgl:w.heap.size<=gl:=by have:=O.out.l;omega
    have H6:=H5.out.setFrom O.out (a+n);rw[Int.natCast_add]at H6;go_roundw
    case rel=>exact⟨r1,a+n,a+n,_,l3++[⟨⟨#[]⟩,(far:Nat),(n:Nat)⟩],H6,by omega,by omega,by omega,by simp;omega,HN,((HB4.setCell hgl _).setCell hga _).setCell hgf _⟩
    case measure =>
     have hx:=H6.ca;rw[Int.natCast_add]at hx;unfold rF;rw[hx,hca];simp[intOf];omega
  ·have d3:=dF (by omega:¬((a:Int)<(s.size:Int)));have nH:=dF (by omega:¬(a<s.size))
   have HE:Hid (l++Wi s f a=Tk.P s d d):=by
    show _=_;rw[<-hP.out,xC (by omega)]
   clear hP;go_wp2_with (first|(go_at_call 177;go_must (refine(Ez O.out H.out has hs1 (by omega)).mono ?_;rintro e w3 ⟨rfl,hb3,v3,h3⟩;have H3:Hid (PS w3 w.heap.size gp ga gf gl base s r a f v3 (l++Wi s f a)):=h3;have oL:=h3.cl;have HB3:Hid (Below w.heap.size wr w3):=hb3;clear h3 hb3)))
   go_ret2
   obtain⟨ad,cap,hv,hsl⟩:=rA H3.out.own;refine⟨G.trans HB3.out,ad,cap,?_,?_⟩
   ·rw[lJ.out,HD0.out,<-HE.out,<-hv];rfl
   ·rw[lJ.out,HD0.out,<-HE.out];exact hsl
namespace Bk
def Ww(dict text:ByteArray):ByteArray:=⟨(dj (Tk.P (dict++text) dict.size dict.size)).toArray⟩
def fC(text s:ByteArray):List ByteArray:=if s.size=0 then [(⟨#[0]⟩:ByteArray)++text,(⟨#[1]⟩:ByteArray)++s] else [(⟨#[0]⟩:ByteArray)++text,(⟨#[1]⟩:ByteArray)++s,(⟨#[2]⟩:ByteArray)++enc s]
def fD(dict text:ByteArray):ByteArray×Int:=if 256<dict.size\/512<text.size then(⟨#[]⟩,2) else(dU (fC text (Ww dict text)) (fC text (Ww dict text)).length,0)
theorem yZ{dict text:ByteArray}(hd:dict.size<=256)(ht:text.size<=512):(Ww dict text).size<=1024:=by
 rcases Nat.lt_or_ge 1024 (Ww dict text).size with h|h
 ·have h1:=yP hd h;have h2:=Es (vc dict text hd ht).1;rw[Ww]at h1;rw[h1]at h2
  cases h2
 ·exact h
theorem oM(s:ByteArray)(h:s.size<=1024):(enc s).size<=10000:=by
 have z1:(⟨(XG (VH (hv s)).1).toArray⟩:ByteArray).size=8:=by
  show(XG _).toArray.size=_;simp[XG,YI]
 have z2:(⟨(VB s.size).toArray⟩:ByteArray).size<=5:=by
  have:=V3 s.size (by omega);show(VB s.size).toArray.size<=_;simpa using this
 have z3:(VO (VH (hv s)).1 s).1.size<=5000:=by
  have z:(⟨#[]⟩:ByteArray).size<=5000:=by decide
  unfold VO;split
  ·exact z
  ·rename_i hc
   split
   ·exact z
   ·cases hq:Yd (VH (hv s)).1 s s.size with
    |none=>exact z
    |some bs =>
     simp only;rw[rU];have:=pV (Yc (Decidable.not_not.1 hc)).1 _ bs hq;omega
 unfold enc;rw[ByteArray.size_append,ByteArray.size_append];omega
end Bk
theorem M5:(prog.info? 9).map (λi=>(i.zero,i.size,i.bytes))=some (some (.string ⟨#[]⟩),1,16):=by kernel_rfl
theorem M6(w:World)(a b:ByteArray):(w.alloc (.cells #[.string a,.string b] 9)).ownsRow w.heap.size 9 1 (.slice (some ⟨w.heap.size,0,none⟩) 2 2) 2 [.string a,.string b] :=
 ⟨rfl,.inr ⟨w.heap.size,2,#[.string a,.string b],rfl,nl _,heap_alloc_last w _,nl _,by decide,rfl,rfl⟩⟩
theorem M7(w:World)(a b:ByteArray):Yw (w.alloc (.cells #[.string a,.string b] 9)) w.heap.size [a,b]:=by
 refine⟨by simp,λi hi=>?_⟩;rw[cell_of_row _ w.heap.size i _ _ _ (heap_alloc_last w _)]
 match i,hi with
 |0,_=>rfl
 |1,_=>rfl
theorem M8{a c:ByteArray}(h:w.ownsRow base 9 1 v 3 [.string a,.string b,.string c]):∃g cap,v=.slice (some ⟨g,0,none⟩) 3 cap/\Yw w g [a,b,c]:=by
 rcases h.2 with⟨_,h0⟩|⟨g,cap,cur,rfl,hb,hg,hnc,hcm,hcs,htk⟩
 ·omega
 ·refine⟨g,cap,rfl,(aG.1 hg).1,λi hi=>?_⟩;rw[cell_of_row w g i _ _ _ hg];have h1:cur.toList[i]?=(cur.toList.take (3*1))[i]?:=by rw[List.getElem?_take,ax (by simpa using hi)]
  rw[<-Array.getElem?_toList,h1,htk]
  match i,hi with
  |0,_=>rfl
  |1,_=>rfl
  |2,_=>rfl
theorem M9(x:ByteArray):∀u ∈ [Value.string x],u.oneCell'=true:=by intro u hu;simp at hu;subst hu;rfl
theorem Na(dict text:ByteArray)(w:World)(hd0:dict.size<=140737488355328)(ht0:text.size<=140737488355328) :
 CB 97 #[.string dict,.string text] w (.tuple #[.string (fD dict text).1,.int .i64 (fD dict text).2]):=by
 by_cases hm:256<dict.size\/512<text.size
 ·have e:fD dict text=(⟨#[]⟩,2):=ax hm;rw[e];have c1:=λw=>MS dict text w hm
  clear e hm;go_enter func97,ntmps97
  go_wp2_with fail
  refine mo (c1 _) λw1 G=>?_
  go_wp2_with fail
  go_ret2
  exact⟨rfl,G⟩
 ·have hd:dict.size<=256:=by omega
  have ht:text.size<=512:=by omega
  have e:fD dict text=(dU (fC text (Ww dict text)) (fC text (Ww dict text)).length,0):=ab hm;rw[e];have c1:=λw=>MX dict text w hd ht
  have q1:=vc dict text hd ht;have q2:=yO (va q1.1);have z1:=yZ hd ht;have c2:=λad cap w hl=>Mo dict ad cap (Tk.P (dict++text) dict.size dict.size) w hl q2
  have hX:u7 dict (Tk.P (dict++text) dict.size dict.size)=Ww dict text:=by unfold u7;rw[ab (by rw[q1.1];decide)];rfl
  rw[q1.1,hX]at c2;generalize Ww dict text=s at*;generalize Tk.P (dict++text) dict.size dict.size=L at*;have c3:=λw=>MJ s w z1
  have z2:=oM s z1;clear e hm q1 q2 hX;by_cases hs:s.size=0
  ·have hb:fC text s=[(⟨#[0]⟩:ByteArray)++text,(⟨#[1]⟩:ByteArray)++s]:=ax hs;rw[hb]
   have hs0:s=⟨#[]⟩:=by
    apply ByteArray.ext;exact Array.eq_empty_of_size_eq_zero hs
   have y1:((⟨#[0]⟩:ByteArray)++text).size<=1000000:=by rw[ByteArray.size_append];have:(⟨#[0]⟩:ByteArray).size=1:=rfl;omega
   have y2:((⟨#[1]⟩:ByteArray)++s).size<=1000000:=by rw[ByteArray.size_append];have:(⟨#[1]⟩:ByteArray).size=1:=rfl;omega
   have hB:∀i,(XH [(⟨#[0]⟩:ByteArray)++text,(⟨#[1]⟩:ByteArray)++s] i).size<=1000000:=λi=>by
    match i with
    |0=>exact y1
    |1=>exact y2
    |i+2=>exact(by decide:(⟨#[]⟩:ByteArray).size<=1000000)
   have c4:=λg cap w hx=>Ey [(⟨#[0]⟩:ByteArray)++text,(⟨#[1]⟩:ByteArray)++s] g cap w hx (by simp) (by simp) hB
   generalize dU [(⟨#[0]⟩:ByteArray)++text,(⟨#[1]⟩:ByteArray)++s] [(⟨#[0]⟩:ByteArray)++text,(⟨#[1]⟩:ByteArray)++s].length=R at*;have hem:s.toList.isEmpty=true:=by rw[hs0,ByteArray.toList_eq];rfl
   have Vd:=Za hs0;clear hb hB hs0 hs c3 z2;go_enter func97,ntmps97
   go_wp2_with fail
   refine(c1 _).mono ?_;rintro e w1 ⟨G1,pd,pc,rfl,Z1⟩;go_wp2_with fail
   refine mo (c2 pd pc _ Z1) λw2 G2=>?_
   have B2:=ag G1 G2;clear c1 c2 G1 G2 Z1;go_wp2_with fail
   have O2:=M7 w2 ((⟨#[0]⟩:ByteArray)++text) ((⟨#[1]⟩:ByteArray)++s);have B3:ae w (w2.alloc (.cells #[.string ((⟨#[0]⟩:ByteArray)++text),.string ((⟨#[1]⟩:ByteArray)++s)] 9)):=B2.alloc B2.size _;refine mo (c4 _ _ _ O2) λw5 G5=>?_
   have B6:=ag B3 G5;go_wp2_with fail
   go_ret2
   exact⟨rfl,B6⟩
  ·have hb:fC text s=[(⟨#[0]⟩:ByteArray)++text,(⟨#[1]⟩:ByteArray)++s,(⟨#[2]⟩:ByteArray)++Bk.enc s]:=ab hs;rw[hb]
   have hne:s.toList.isEmpty=false:=by
    rw[ByteArray.toList_eq,Bool.eq_false_iff];intro e;rw[List.isEmpty_iff]at e;apply hs;have:=congrArg List.length e;rw[Xw]at this;simpa using this
   have y1:((⟨#[0]⟩:ByteArray)++text).size<=1000000:=by rw[ByteArray.size_append];have:(⟨#[0]⟩:ByteArray).size=1:=rfl;omega
   have y2:((⟨#[1]⟩:ByteArray)++s).size<=1000000:=by rw[ByteArray.size_append];have:(⟨#[1]⟩:ByteArray).size=1:=rfl;omega
   have y3:((⟨#[2]⟩:ByteArray)++Bk.enc s).size<=1000000:=by rw[ByteArray.size_append];have:(⟨#[2]⟩:ByteArray).size=1:=rfl;omega
   have hB:∀i,(XH [(⟨#[0]⟩:ByteArray)++text,(⟨#[1]⟩:ByteArray)++s,(⟨#[2]⟩:ByteArray)++Bk.enc s] i).size<=1000000:=λi=>by
    match i with
    |0=>exact y1
    |1=>exact y2
    |2=>exact y3
    |i+3=>exact(by decide:(⟨#[]⟩:ByteArray).size<=1000000)
   have c4:=λg cap w hx=>Ey [(⟨#[0]⟩:ByteArray)++text,(⟨#[1]⟩:ByteArray)++s,(⟨#[2]⟩:ByteArray)++Bk.enc s] g cap w hx (by simp) (by simp) hB
   generalize dU [(⟨#[0]⟩:ByteArray)++text,(⟨#[1]⟩:ByteArray)++s,(⟨#[2]⟩:ByteArray)++Bk.enc s] [(⟨#[0]⟩:ByteArray)++text,(⟨#[1]⟩:ByteArray)++s,(⟨#[2]⟩:ByteArray)++Bk.enc s].length=R at*;generalize Bk.enc s=en at*;clear hb hB;go_enter func97,ntmps97
   go_wp2_with fail
   refine(c1 _).mono ?_;rintro e w1 ⟨G1,pd,pc,rfl,Z1⟩;go_wp2_with fail
   refine mo (c2 pd pc _ Z1) λw2 G2=>?_
   have B2:=ag G1 G2;clear c1 c2 G1 G2 Z1;go_wp2_with fail
   have O2:=M6 w2 ((⟨#[0]⟩:ByteArray)++text) ((⟨#[1]⟩:ByteArray)++s);have B3:ae w (w2.alloc (.cells #[.string ((⟨#[0]⟩:ByteArray)++text),.string ((⟨#[1]⟩:ByteArray)++s)] 9)):=B2.alloc B2.size _
   have EC:Hid (w.heap.size<=w2.heap.size/\w2.heap.size<(w2.alloc (.cells #[.string ((⟨#[0]⟩:ByteArray)++text),.string ((⟨#[1]⟩:ByteArray)++s)] 9)).heap.size):=⟨B2.size,by simp⟩
   generalize w2.alloc (.cells #[.string ((⟨#[0]⟩:ByteArray)++text),.string ((⟨#[1]⟩:ByteArray)++s)] 9)=wa at*;generalize w2.heap.size=g2 at*
   obtain⟨t0,vf⟩:∃t,(⟨#[0]⟩:ByteArray)++text=t:=⟨_,rfl⟩
   obtain⟨t1,vg⟩:∃t,(⟨#[1]⟩:ByteArray)++s=t:=⟨_,rfl⟩
   rw[vf,vg]at c4 O2;rw[vf]at y1;rw[vg]at y2;rw[vf,vg];clear vf vg;refine mo (c3 _) λw3 G3=>?_
   have O3:=Zz O2 G3;have B4:=ag B3 G3;have hg3:g2<=w3.heap.size:=by have:=EC.out;have:=G3.size;omega
   clear O2 B3 G3 c3 B2;obtain⟨i0,hi,hz0,hz1,hz2⟩:=info_parts M5;go_wp2_with (at_builtin;go_must (refine wpList_append_own _ rfl _ _ 32 rfl g2 9 i0 (.string ⟨#[]⟩) 1 16 je hi hz0 hz1 hz2 rfl (by decide) _ _ _ rfl (O3.alloc _) ⟨w3.heap.size,0,none⟩ 1 1 [.string ((⟨#[2]⟩:ByteArray)++en)] rfl rfl (cell_one_new _ _ _) (M9 _) (fb (by omega)) (by omega) (by simp;omega) ?_;intro v' w4 hown' hgrow _))
   obtain⟨g,cap,hv,hx⟩:=M8 hown';subst hv;have B5:=(B4.alloc B4.size _).grown hgrow (by have:=B4.size;simp;omega) (λk hk=>by have h9:=(O3.lt k hk).1;have h8:=EC.out.1;omega);refine mo (c4 g cap _ hx) λw5 G5=>?_
   have B6:=ag B5 G5;go_wp2_with fail
   go_ret2
   exact⟨rfl,B6⟩
namespace Ar
structure F where
 name:ByteArray
 dict:Int
 size:Int
 sum:Int
 blk:ByteArray
structure A where
 aa:List ByteArray
 files:List F
def fz:F:=⟨⟨#[]⟩,0,0,0,⟨#[]⟩⟩
def Nm(fs:List F)(i:Nat):F:=fs.getD i fz
def VC:A:=⟨[],[]⟩
def jP(c:Nat):Bool:=decide (97<=c/\c<=122)||decide (48<=c/\c<=57)||decide (c=46)
def VX(b:ByteArray):Nat->Bool
 |0=>true
 |k+1=>VX b k&&jP (Cd.at8 b k)
def bI(b:ByteArray):Bool:=decide (1<=b.size/\b.size<=12)&&VX b b.size
def V5(ds:List ByteArray)(n:Int):ByteArray:=if n=0 then⟨#[]⟩ else VA ds (n-1).toNat
def VY(ds:List ByteArray)(n:Int):Bool:=decide (0<=n/\n<=(ds.length:Int))
def Wd(ds:List ByteArray)(f:F):ByteArray×Int:=WH (V5 ds f.dict) f.blk
def Wn(t:ByteArray):Int:=(eA t t.size:Nat)
def dR(ds:List ByteArray)(f:F):Bool:=VY ds f.dict&&decide ((Wd ds f).2=0/\((Wd ds f).1.size:Int)=f.size/\Wn (Wd ds f).1=f.sum)
def WX(ds:List ByteArray)(f:F):ByteArray:=(Wd ds f).1
def WC(xs:List ByteArray):Nat->Option Nat
 |0=>none
 |k+1=>match WC xs k with
  |some i=>some i
  |none=>if 256<(VA xs k).size then some k else none
def W6(a:A):Bool:=decide (4<a.aa.length\/12<a.files.length)||(WC a.aa a.aa.length).isSome
def dQ(a:A)(k:Nat):Bool:=bI (Nm a.files k).name&&(decide (k=0)||VI (Nm a.files (k-1)).name (Nm a.files k).name)&&dR a.aa (Nm a.files k)
def WW(a:A):Nat->Bool
 |0=>true
 |k+1=>WW a k&&dQ a k
def Vz(a:A):Int:=if W6 a=true then 2 else if WW a a.files.length=true then 0 else 1
def aY(a:A):List ByteArray:=a.files.map (WX a.aa)
def VG(fs:List F)(name:ByteArray):Nat:=(fs.takeWhile λf=>VI f.name name).length
def ZI(fs:List F)(name:ByteArray):Bool:=decide (VG fs name<fs.length/\(Nm fs (VG fs name)).name=name)
def VN(ds:List ByteArray)(name text:ByteArray)(dict:Int):F:=⟨name,dict,text.size,Wn text,(fD (V5 ds dict) text).1⟩
def V8(fs:List F)(f:F):List F:=fs.take (VG fs f.name)++f :: fs.drop (VG fs f.name+if ZI fs f.name=true then 1 else 0)
def aO(a:A)(name text:ByteArray)(dict:Int):Int :=
 if Vz a≠0 then Vz a else if bI name=false then 4 else if VY a.aa dict=false then 3
 else if 512<text.size\/(ZI a.files name=false/\a.files.length=12) then 2 else 0
def bW(a:A)(name text:ByteArray)(dict:Int):A:=if aO a name text dict=0 then⟨a.aa,V8 a.files (VN a.aa name text dict)⟩ else VC
def VE(a:A)(name:ByteArray):Int:=if Vz a≠0 then Vz a else if ZI a.files name=true then 0 else 5
def Wf(a:A)(name:ByteArray):A:=if VE a name=0 then⟨a.aa,a.files.take (VG a.files name)++a.files.drop (VG a.files name+1)⟩ else VC
def bD(a:A)(name:ByteArray):ByteArray:=if VE a name=0 then WX a.aa (Nm a.files (VG a.files name)) else⟨#[]⟩
def WO(a:A)(name:ByteArray)(i n:Int):Int:=if VE a name≠0 then VE a name else if 0<=i/\0<=n/\i+n<=((bD a name).size:Int) then 0 else 3
def W7(a:A)(name:ByteArray)(i n:Int):ByteArray:=if WO a name i n=0 then(bD a name).extract i.toNat (i.toNat+n.toNat) else⟨#[]⟩
def V6(a:A)(size:Int):Int:=if Vz a≠0 then Vz a else if 0<=size/\size<=256 then(if a.aa.length=4 then 2 else 0) else 3
def V9(a:A)(size:Int):List ByteArray:=a.aa++[Wq (aY a) size.toNat]
def WL(a:A)(size:Int):A:=if V6 a size=0 then⟨V9 a size,a.files.map λf=>VN (V9 a size) f.name (WX a.aa f) (a.aa.length+1:Nat)⟩ else VC
def XK(a:A)(n:Int):Bool:=a.files.any λf=>decide (f.dict=n)
def gn(a:A):Nat->Nat
 |0=>0
 |k+1=>gn a k+(if XK a ((k+1:Nat):Int)=true then 1 else 0)
def VZ(a:A):Nat->List ByteArray
 |0=>[]
 |k+1=>if XK a ((k+1:Nat):Int)=true then VZ a k++[VA a.aa k] else VZ a k
def bU(a:A)(k:Nat)(f:F):F:=if 1<=f.dict/\f.dict<=(k:Int) then { f with dict:=(gn a f.dict.toNat:Nat) } else f
def bh(a:A):A:=if Vz a=0 then⟨VZ a a.aa.length,a.files.map (bU a a.aa.length)⟩ else VC
def iQ(ds:List ByteArray):Nat->Nat
 |0=>0
 |k+1=>iQ ds k+(VA ds k).size
def iR(fs:List F):Nat->Nat
 |0=>0
 |k+1=>iR fs k+(Nm fs k).blk.size
def sz(a:A):Nat:=iQ a.aa a.aa.length+iR a.files a.files.length
def Wg(a:A):Nat:=if Vz a=0 then sz a else 0
end Ar
namespace Im
theorem Nb{α β:Type}{p:ByteArray->Option (α×ByteArray)}{enc:α->B}{ok:α->Prop}(hp:Rd p enc ok)(f:α->β)(g:β->α)(okb:β->Prop)(h1:∀a,ok a->okb (f a)/\g (f a)=a)(h2:∀b,okb b->ok (g b)/\f (g b)=b) :
 Rd (λs=>match p s with|none=>none|some (a,r)=>some (f a,r)) (λb=>enc (g b)) okb:=by
 intro s b r;constructor
 ·intro h;simp only at h
  cases ha:p s with
  |none=>rw[ha]at h;cases h
  |some y =>
   obtain⟨a,r0⟩:=y;rw[ha]at h;simp only[Option.some.injEq,Prod.mk.injEq]at h;obtain⟨rfl,rfl⟩:=h;obtain⟨a1,a2⟩:=(hp s a r0).1 ha;simp only[(h1 a a1).2];exact⟨(h1 a a1).1,a2⟩
 ·rintro⟨hb,h⟩;simp only;rw[(hp s (g b) r).2 ⟨(h2 b hb).1,h⟩];simp only[(h2 b hb).2]
def kP(f:Ar.F):B:=tb f.name++(VB f.dict.toNat++(VB f.size.toNat++(VB f.sum.toNat++tb f.blk)))
def Z8(n:Int):Prop:=0<=n/\n<=2147483647
def aaI(f:Ar.F):Prop:=f.name.size<=512/\Z8 f.dict/\Z8 f.size/\Z8 f.sum/\f.blk.size<=2147483647
def WR(s:ByteArray):Option (Ar.F×ByteArray) :=
 match bn 512 s with
 |none=>none
 |some (nm,r1)=>match Xx r1 with
  |none=>none
  |some (d,r2)=>match Xx r2 with
   |none=>none
   |some (z,r3)=>match Xx r3 with
    |none=>none
    |some (u,r4)=>match bn 2147483647 r4 with
     |none=>none
     |some (b,r5)=>some (⟨nm,(d:Nat),(z:Nat),(u:Nat),b⟩,r5)
theorem aaM:Rd WR kP aaI:=by
 have h:=Nb (uh (ny 512) (uh Yh (uh Yh (uh Yh (ny 2147483647) Prod.fst Prod.snd Prod.mk (λ_ _=>rfl) (λ_ _=>rfl) (λ_=>rfl)) Prod.fst Prod.snd Prod.mk (λ_ _=>rfl) (λ_ _=>rfl) (λ_=>rfl)) Prod.fst Prod.snd Prod.mk (λ_ _=>rfl) (λ_ _=>rfl) (λ_=>rfl)) Prod.fst Prod.snd Prod.mk (λ_ _=>rfl) (λ_ _=>rfl) (λ_=>rfl))
  (λx:ByteArray×Nat×Nat×Nat×ByteArray=>(⟨x.1,(x.2.1:Nat),(x.2.2.1:Nat),(x.2.2.2.1:Nat),x.2.2.2.2⟩:Ar.F)) (λf=>(f.name,f.dict.toNat,f.size.toNat,f.sum.toNat,f.blk)) aaI
  (λa ha=>by
   obtain⟨⟨h1,h2⟩,h3,h4,h5,h6,_⟩:=ha
   exact⟨⟨h2,⟨by simp,by simp only;omega⟩,⟨by simp,by simp only;omega⟩,⟨by simp,by simp only;omega⟩,h6⟩,by simp⟩)
  (λf hf=>by
   obtain⟨h1,⟨h2,h2'⟩,⟨h3,h3'⟩,⟨h4,h4'⟩,h5⟩:=hf;refine⟨⟨⟨by simp only;omega,h1⟩,by simp only;omega,by simp only;omega,by simp only;omega,h5,h5⟩,?_⟩;obtain⟨n,d,z,u,b⟩:=f;simp only at h2 h3 h4 |-
   rw[Int.toNat_of_nonneg h2,Int.toNat_of_nonneg h3,Int.toNat_of_nonneg h4])
 intro s f r;refine Iff.trans ?_ (h s f r);unfold WR
 cases h1:bn 512 s with
 |none=>simp only[h1]
 |some x1 =>
  simp only[h1]
  cases h2:Xx x1.2 with
  |none=>simp only
  |some x2 =>
   simp only
   cases h3:Xx x2.2 with
   |none=>simp only
   |some x3 =>
    simp only
    cases h4:Xx x3.2 with
    |none=>simp only
    |some x4 =>
     simp only
     cases h5:bn 2147483647 x4.2 with
     |none=>simp only
     |some x5=>simp only
def XV:B:=[112,114,101,115,115]
def WT(a:Ar.A):B:=XV++(VB a.aa.length++(aaJ tb a.aa++(VB a.files.length++aaJ kP a.files)))
def WU(a:Ar.A):ByteArray:=⟨(WT a).toArray⟩
theorem aaa(a:Ar.A):(WU a).data.toList=WT a:=by simp[WU]
structure aaH(a:Ar.A):Prop where
 nd:a.aa.length<=4
 ds:∀d∈a.aa,d.size<=512
 nf:a.files.length<=12
 fs:∀f∈a.files,aaI f
def oP(s:ByteArray):Option ByteArray:=if s.data.toList.take 5=XV then some (s.extract 5 s.size) else none
theorem zb(s r:ByteArray):oP s=some r↔s.data.toList=XV++r.data.toList:=by
 unfold oP;constructor
 ·intro h;by_cases hm:s.data.toList.take 5=XV
  ·rw[ax hm]at h;simp only[Option.some.injEq]at h;subst h;rw[bA,<-hm,List.take_append_drop]
  ·rw[ab hm]at h;cases h
 ·intro h;rw[ax (by rw[h];rfl)]
  congr 1
  apply ZN;rw[bA,h];rfl
def Wx(s:ByteArray):Option Ar.A :=
 match oP s with
 |none=>none
 |some r0=>match WY 4 r0 with
  |none=>none
  |some (n,r1)=>match eG (bn 512) n r1 with
   |none=>none
   |some (ds,r2)=>match WY 12 r2 with
    |none=>none
    |some (m,r3)=>match eG WR m r3 with
     |none=>none
     |some (fs,r4)=>if r4.size=0 then some ⟨ds,fs⟩ else none
theorem vi(l:B):∃q:ByteArray,q.data.toList=l:=⟨⟨l.toArray⟩,by simp⟩
theorem aab(s:ByteArray)(a:Ar.A):Wx s=some a↔aaH a/\s.data.toList=WT a:=by
 constructor
 ·intro h;unfold Wx at h
  cases h0:oP s with
  |none=>rw[h0]at h;cases h
  |some r0 =>
   rw[h0]at h;simp only at h
   cases h1:WY 4 r0 with
   |none=>rw[h1]at h;cases h
   |some x1 =>
    obtain⟨n,r1⟩:=x1;rw[h1]at h;simp only at h
    cases h2:eG (bn 512) n r1 with
    |none=>rw[h2]at h;cases h
    |some x2 =>
     obtain⟨ds,r2⟩:=x2;rw[h2]at h;simp only at h
     cases h3:WY 12 r2 with
     |none=>rw[h3]at h;cases h
     |some x3 =>
      obtain⟨m,r3⟩:=x3;rw[h3]at h;simp only at h
      cases h4:eG WR m r3 with
      |none=>rw[h4]at h;cases h
      |some x4 =>
       obtain⟨fs,r4⟩:=x4;rw[h4]at h;simp only at h;by_cases h5:r4.size=0
       ·rw[ax h5]at h;simp only[Option.some.injEq]at h;subst h;have g0:=(zb s r0).1 h0;obtain⟨⟨_,g1⟩,g1'⟩:=(YQ 4 r0 n r1).1 h1;obtain⟨⟨g2,g2'⟩,zd⟩:=(l7 (ny 512) n r1 ds r2).1 h2;obtain⟨⟨_,g3⟩,g3'⟩:=(YQ 12 r2 m r3).1 h3;obtain⟨⟨g4,g4'⟩,ze⟩:=(l7 aaM m r3 fs r4).1 h4;have g5:=lZ.1 (by rw[<-Zf];exact h5);subst g2 g4;refine⟨⟨g1,λd hd=>(g2' d hd).2,g3,g4'⟩,?_⟩;rw[g0,g1',zd,g3',ze,g5,List.append_nil];rfl
       ·rw[ab h5]at h;cases h
 ·rintro⟨h1,h⟩;unfold WT at h;obtain⟨r3,e3⟩:=vi (aaJ kP a.files);obtain⟨r2,e2⟩:=vi (VB a.files.length++r3.data.toList);obtain⟨r1,e1⟩:=vi (aaJ tb a.aa++r2.data.toList);obtain⟨r0,e0⟩:=vi (VB a.aa.length++r1.data.toList);rw[<-e3,<-e2,<-e1,<-e0]at h;have n4:=h1.nd;have n12:=h1.nf;unfold Wx;rw[(zb s r0).2 h];simp only;rw[(YQ 4 r0 _ r1).2 ⟨⟨by omega,n4⟩,e0⟩];simp only;rw[(l7 (ny 512) _ r1 a.aa r2).2 ⟨⟨rfl,λd hd=>⟨by have:=h1.ds d hd;omega,h1.ds d hd⟩⟩,e1⟩];simp only;rw[(YQ 12 r2 _ r3).2 ⟨⟨by omega,n12⟩,e2⟩];simp only;rw[(l7 aaM _ r3 a.files ⟨#[]⟩).2 ⟨⟨rfl,h1.fs⟩,by rw[e3];simp⟩];exact ax rfl
structure Act where
 kind:Int
 n:Int
 name:ByteArray
 text:ByteArray
end Im
namespace Tr
def WV(w:World)(b off:Nat)(xs:List ByteArray):Prop:=b<w.heap.size/\∀i,i<xs.length->w.cell? ⟨b,off+i,none⟩=some (.string (VA xs i))
theorem WV.below{b:Nat}(h:WV w b off xs)(hb:ae w w'):WV w' b off xs:=⟨Nat.lt_of_lt_of_le h.1 hb.size,λi hi=>by rw[<-h.2 i hi];exact hb.cell (p:=⟨b,off+i,none⟩) h.1⟩
def Xg(xs:List ByteArray):Nat->Option Nat
 |0=>none
 |k+1=>match Xg xs k with
  |some i=>some i
  |none=>if 512<(VA xs k).size then some k else none
theorem vj{i:Nat}(h:Xg xs k=some i):∀j,Xg xs (k+j)=some i:=by
 intro j
 induction j with
 |zero=>exact h
 |succ j ih=>rw[<-Nat.add_assoc,Xg,ih]
def XI(xs:List ByteArray):Bool:=decide (12<xs.length)||(Xg xs xs.length).isSome
end Tr
theorem Nc(t:ByteArray)(w:World) :
 CB 141 #[.string t] w (.bool (decide ((512:Int)<(t.size:Int)))):=by
 go_enter func141,ntmps141
 go_wp2_with fail
 go_ret
 exact⟨rfl,bR _ _⟩
theorem Nd(xs:List ByteArray)(b off cap:Nat)(w:World)(hx:WV w b off xs)(hn2:xs.length<=1000)(hB:∀i,(VA xs i).size<=140737488355328) :
 CB 106 #[.slice (some ⟨b,off,none⟩) xs.length cap,.func (.func 141) #[] #[]] w (.int .i64 (match Xg xs xs.length with|none=>-1|some i=>(i:Int))):=by
 have HX:=Za λw' (h:WV w' b off xs)=>h.2
 have HB:=Za hB;clear hB
 obtain⟨r,hr⟩:∃r,(match Xg xs xs.length with|none=>(-1:Int)|some i=>(i:Int))=r:=⟨_,rfl⟩
 rw[hr];have Hr:=Za hr;clear hr;go_enter func106,ntmps106
 go_wp2_with fail
 go_loopw [8] (λi wr=>∃k:Nat,k<=xs.length/\i=.int .i64 k/\Hid (Xg xs k=none)/\WV wr b off xs/\ae w wr) (λi _=>xs.length-(intOf i).toNat)
 case atStart=>exact⟨0,by omega,rfl,rfl,hx,bR _ _⟩
 case round =>
  clear hx;obtain⟨k,hk2,rfl,HL,hx,B1⟩:=hrel;by_cases hlt:k<xs.length
  ·have d1:=al (by omega:(k:Int)<(xs.length:Int));have d1':=al (by omega:k<xs.length);have hki:(k:Int)<(xs.length:Int):=by omega
   have c1:=HX.out wr hx k hlt;have z1:=HB.out k;have c2:=λw=>Nc (VA xs k) w
   by_cases hs:512<(VA xs k).size
   ·have HN:Hid (Xg xs (k+1)=some k):=by show _=_;rw[Xg,HL.out];exact ax hs
    have HR:Hid ((k:Int)=r):=by
     have h9:=Tr.vj HN.out (xs.length-(k+1));rw[show k+1+(xs.length-(k+1))=xs.length by omega]at h9;have:=Hr.out;rw[h9]at this;exact this
    have d2:decide ((512:Int)<((VA xs k).size:Int))=true:=al (by omega);rw[d2]at c2;generalize VA xs k=X at*;clear HN hs d2;go_wp2_with fail
    refine mo (c2 _) λw2 G=>?_
    have B2:=ag B1 G;go_wp2_with fail
    go_ret
    exact⟨congrArg (λx=>Ending.returned (Value.int .i64 x)) HR.out,B2⟩
   ·have HN:Hid (Xg xs (k+1)=none):=by show _=_;rw[Xg,HL.out];exact ab hs
    have d2:decide ((512:Int)<((VA xs k).size:Int))=false:=dF (by omega);rw[d2]at c2;generalize VA xs k=X at*;clear hs d2;go_wp2_with fail
    refine mo (c2 _) λw2 G=>?_
    have B2:=ag B1 G;have hx2:=hx.below G;clear B1 G hx;go_wp2_with fail
    go_roundw
    case rel=>exact⟨k+1,by omega,by go_num,HN,hx2,B2⟩
    case measure=>simp[intOf];omega
  ·obtain rfl:k=xs.length:=by omega
   have HR:Hid ((-1:Int)=r):=by have:=Hr.out;rw[HL.out]at this;exact this
   have d1:decide ((xs.length:Int)<(xs.length:Int))=false:=by simp
   clear Hr;go_wp2_with fail
   go_ret
   exact⟨congrArg (λx=>Ending.returned (Value.int .i64 x)) HR.out,B1⟩
theorem Nf(ad:Option Addr)(cap:Nat)(w:World) :
 CB 106 #[.slice ad 0 cap,.func (.func 141) #[] #[]] w (.int .i64 (-1)):=by
 go_enter func106,ntmps106
 go_wp2_with fail
 go_loopw [8] (λi wr=>i=.int .i64 0/\ae w wr) (λi _=>0)
 case atStart=>exact⟨rfl,bR _ _⟩
 case round =>
  obtain⟨rfl,B1⟩:=hrel;go_wp2_with fail
  go_ret
  exact⟨rfl,B1⟩
def bz(w:World)(ad:Option Addr)(xs:List ByteArray):Prop:=xs=[]\/∃b off,ad=some ⟨b,off,none⟩/\WV w b off xs
theorem bz.below(h:bz w ad xs)(hb:ae w w'):bz w' ad xs:=by
 rcases h with h|⟨b,off,h1,h2⟩
 ·exact .inl h
 ·exact .inr ⟨b,off,h1,h2.below hb⟩
theorem Ng(xs:List ByteArray)(ad:Option Addr)(cap:Nat)(w:World)(hx:bz w ad xs)(hn2:xs.length<=1000)(hB:∀i,(VA xs i).size<=140737488355328) :
 CB 106 #[.slice ad xs.length cap,.func (.func 141) #[] #[]] w (.int .i64 (match Xg xs xs.length with|none=>-1|some i=>(i:Int))):=by
 rcases hx with rfl|⟨b,off,rfl,h2⟩
 ·exact Nf ad cap w
 ·exact Nd xs b off cap w h2 hn2 hB
theorem Nh(xs:List ByteArray)(ad:Option Addr)(cap:Nat)(w:World)(hx:bz w ad xs)(hn2:xs.length<=1000)(hB:∀i,(VA xs i).size<=140737488355328) :
 CB 138 #[.slice ad xs.length cap,.func (.func 141) #[] #[]] w (.bool (Xg xs xs.length).isSome):=by
 have c1:=Ng xs ad cap w hx hn2 hB
 cases hq:Xg xs xs.length with
 |none =>
  rw[hq]at c1;simp only at c1;clear hq;go_enter func138,ntmps138
  go_wp2_with fail
  refine mo c1 λw1 G=>?_
  go_wp2_with fail
  go_ret
  exact⟨rfl,G⟩
 |some i =>
  rw[hq]at c1;simp only at c1;clear hq;have h0:(0:Int)<=(i:Int):=by omega
  have d0:=al h0;go_enter func138,ntmps138
  go_wp2_with fail
  refine mo c1 λw1 G=>?_
  go_wp2_with fail
  go_ret
  exact⟨rfl,G⟩
theorem zf(xs:List ByteArray)(ad:Option Addr)(cap:Nat)(w:World)(hx:bz w ad xs)(hB:∀i,(VA xs i).size<=140737488355328) :
 CB 104 #[.slice ad xs.length cap] w (.bool (XI xs)):=by
 unfold XI;by_cases hn:12<xs.length
 ·have hn':(12:Int)<(xs.length:Int):=by omega
  rw[decide_eq_true hn];go_enter func104,ntmps104
  go_wp2_with fail
  go_ret
  exact⟨rfl,bR _ _⟩
 ·have hn':(xs.length:Int)<=12:=by omega
  have c1:=λw hx=>Nh xs ad cap w hx (by omega) hB
  rw[decide_eq_false hn,Bool.false_or];generalize (Xg xs xs.length).isSome=r at*;go_enter func104,ntmps104
  go_wp2_with fail
  refine mo (c1 _ hx) λw1 G=>?_
  go_wp2_with fail
  go_ret
  exact⟨rfl,G⟩
def fv(f:Ar.F):Value:=.agg #[.string f.name,.int .i64 f.dict,.int .i64 f.size,.int .i64 f.sum,.string f.blk]
structure su(w:World)(b o:Nat)(f:Ar.F):Prop where
 c0:w.cell? ⟨b,o,none⟩=some (.string f.name)
 c1:w.cell? ⟨b,o+1,none⟩=some (.int .i64 f.dict)
 c2:w.cell? ⟨b,o+2,none⟩=some (.int .i64 f.size)
 c3:w.cell? ⟨b,o+3,none⟩=some (.int .i64 f.sum)
 c4:w.cell? ⟨b,o+4,none⟩=some (.string f.blk)
def kQ(w:World)(b off:Nat)(fs:List Ar.F):Prop:=b<w.heap.size/\∀i,i<fs.length->su w b (off+i*5) (Nm fs i)
theorem su.below{b o:Nat}{f:Ar.F}(h:su w b o f)(hb:ae w w')(hlt:b<w.heap.size):su w' b o f :=
 ⟨(hb.cell (p:=⟨b,o,none⟩) hlt).trans h.c0,(hb.cell (p:=⟨b,o+1,none⟩) hlt).trans h.c1,(hb.cell (p:=⟨b,o+2,none⟩) hlt).trans h.c2,(hb.cell (p:=⟨b,o+3,none⟩) hlt).trans h.c3,(hb.cell (p:=⟨b,o+4,none⟩) hlt).trans h.c4⟩
theorem kQ.below{b:Nat}{fs:List Ar.F}(h:kQ w b off fs)(hb:ae w w'):kQ w' b off fs :=
 ⟨nT h.1 hb.size,λi hi=>(h.2 i hi).below hb h.1⟩
def ez(w:World)(ad:Option Addr)(fs:List Ar.F):Prop:=fs=[]\/∃b off,ad=some ⟨b,off,none⟩/\kQ w b off fs
theorem ez.below{fs:List Ar.F}(h:ez w ad fs)(hb:ae w w'):ez w' ad fs:=by
 rcases h with h|⟨b,off,h1,h2⟩
 ·exact .inl h
 ·exact .inr ⟨b,off,h1,h2.below hb⟩
def av(ad:Option Addr)(cd:Nat)(af:Option Addr)(cf:Nat)(a:Ar.A):Value:=.agg #[.slice ad a.aa.length cd,.slice af a.files.length cf]
structure bo(w:World)(ad af:Option Addr)(a:Ar.A):Prop where
 ds:bz w ad a.aa
 fs:ez w af a.files
theorem bo.below{af:Option Addr}{a:Ar.A}(h:bo w ad af a)(hb:ae w w'):bo w' ad af a:=⟨h.ds.below hb,h.fs.below hb⟩
structure ao(a:Ar.A):Prop where
 nd:a.aa.length<=8796093022208
 nf:a.files.length<=8796093022208
 ds:∀i,(VA a.aa i).size<=140737488355328
 nm:∀i,(Nm a.files i).name.size<=140737488355328
 bk:∀i,(Nm a.files i).blk.size<=140737488355328
theorem ao.df{a:Ar.A}(h:ao a)(n:Int):(V5 a.aa n).size<=140737488355328:=by
 unfold V5;split
 ·show 0<=_;omega
 ·exact h.ds _
end Go.Proofs.YtbjbjbpgmojcbacGreatDoor
