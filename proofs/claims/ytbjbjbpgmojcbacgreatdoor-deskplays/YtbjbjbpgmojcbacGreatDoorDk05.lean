/- A part of the proof: what it leans on. -/
import Derived.Deep.DeepCutAuto
import Derived.Test.YtbjbjbpgmojcbacGreatDoorDk04
set_option maxRecDepth 4000
set_option maxHeartbeats 4000000
namespace Go.Proofs.YtbjbjbpgmojcbacGreatDoor
open Ar Bk Cd Dk Im Tk Tr Vy
open Tryz
variable{n word:Int}{a g gr k m:Nat}{f ws:Nat->Int}
open Go.RowKit
namespace Cd
def aat(f ws:Nat->Int)(n word:Int):Nat->Option Nat
 |0=>none
 |k+1=>match aat f ws n word k with
  |some s=>some s
  |none=>if f k=n/\ws k=word then some k else none
theorem Dl(h:aat f ws n word k=none)(h1:¬(f k=n/\ws k=word)):aat f ws n word (k+1)=none:=by rw[aat,h];simp only;rw[ab h1]
theorem Ky(h:aat f ws n word k=none)(h1:f k=n/\ws k=word):∀j,aat f ws n word (k+1+j)=some k:=by
 intro j
 induction j with
 |zero=>rw[Nat.add_zero,aat,h];simp only;rw[ax h1]
 |succ j ih=>rw[<-Nat.add_assoc,aat,ih]
def ZV(b:ByteArray)(a:Nat):Nat:=at8 b (a/8)/2^(7-a%8)%2
def jK(f ws:Nat->Int)(n word:Int):Option Nat:=aat f ws n word 16
def XF(f ws:Nat->Int)(b:ByteArray):Nat->Int->Int->Nat->Int×Nat
 |0,_,_,a=>(-1,a)
 |m+1,n,word,a=>if 8*b.size<=a then(-1,a) else if(jK f ws n (2*word+ZV b a)).isSome=true then(((jK f ws n (2*word+ZV b a)).getD 0:Nat),a+1)
  else XF f ws b m (n+1) (2*word+ZV b a) (a+1)
theorem xY{b:ByteArray}(h:8*b.size<=a):XF f ws b m n word a=(-1,a):=by
 cases m with
 |zero=>rfl
 |succ m=>rw[XF,ax h]
theorem uK{b:ByteArray}{s:Nat}(h:¬8*b.size<=a)(h1:jK f ws n (2*word+ZV b a)=some s):XF f ws b (m+1) n word a=((s:Int),a+1):=by
 rw[XF,ab h,h1,ax (by rfl)];rfl
theorem uL{b:ByteArray}(h:¬8*b.size<=a)(h1:jK f ws n (2*word+ZV b a)=none):XF f ws b (m+1) n word a=XF f ws b m (n+1) (2*word+ZV b a) (a+1):=by
 rw[XF,ab h,h1,ab (by simp)]
theorem uM(b:ByteArray)(a:Nat):ZV b a<=1:=by unfold ZV;omega
end Cd
def ia(f ws:Nat->Int)(b:ByteArray)(a:Nat):Array Value:=arr f++arr ws++#[.string b,.int .i64 (a:Nat)]
def bG(w:World)(gr:Nat)(f ws:Nat->Int)(b:ByteArray)(a:Nat):Prop:=gr<w.heap.size/\w.heap[gr]?=some (.cells (ia f ws b a) 253 (0,0))
theorem bG.below{w w':World}{b:ByteArray}(h:bG w gr f ws b a)(hb:ae w w'):bG w' gr f ws b a:=⟨Nat.lt_of_lt_of_le h.1 hb.size,by rw[hb.block gr h.1];exact h.2⟩
theorem bG.l{w:World}{b:ByteArray}(h:bG w gr f ws b a)(k:Nat)(hk:k<16):w.cell? ⟨gr,k,none⟩=some (.int .i64 (f k)):=by
 rw[cell_of_row w gr k _ _ _ h.2,ia,Array.getElem?_append_left (by simp[Zo];omega),Array.getElem?_append_left (by rw[Zo];exact hk),lF f k hk]
theorem bG.w{w:World}{gr:Nat}{f ws:Nat->Int}{b:ByteArray}{a:Nat}(h:bG w gr f ws b a)(k:Nat)(hk:k<16):w.cell? ⟨gr,16+k,none⟩=some (.int .i64 (ws k)):=by
 rw[cell_of_row w gr _ _ _ _ h.2,ia,Array.getElem?_append_left (by simp[Zo];omega),Array.getElem?_append_right (by rw[Zo];omega),Zo,show 16+k-16=k by omega,lF ws k hk]
theorem bG.b{w:World}{gr:Nat}{f ws:Nat->Int}{b:ByteArray}{a:Nat}(h:bG w gr f ws b a):w.cell? ⟨gr,32,none⟩=some (.string b):=by
 rw[cell_of_row w gr _ _ _ _ h.2,ia,Array.getElem?_append_right (by simp[Zo])];simp[Zo]
theorem bG.at_{w:World}{b:ByteArray}(h:bG w gr f ws b a):w.cell? ⟨gr,33,none⟩=some (.int .i64 (a:Nat)):=by
 rw[cell_of_row w gr _ _ _ _ h.2,ia,Array.getElem?_append_right (by simp[Zo])];simp[Zo]
theorem bG.frozen{w:World}{b:ByteArray}(h:bG w gr f ws b a)(k:Nat):w.frozen? ⟨gr,k,none⟩=false:=by simp[World.frozen?,h.2]
theorem Kz(f ws:Nat->Int)(b:ByteArray)(a a':Nat):(ia f ws b a).setIfInBounds 33 (.int .i64 (a':Nat))=ia f ws b a':=by
 unfold ia;have hs:(arr f++arr ws).size=32:=by rw[Array.size_append,Zo,Zo]
 generalize arr f++arr ws=c at*;apply Array.ext_getElem?;intro i;rw[Array.getElem?_setIfInBounds];by_cases hi:i<32
 ·rw[ab (by omega),Array.getElem?_append_left (by omega),Array.getElem?_append_left (by omega)]
 ·rw[Array.getElem?_append_right (by omega),Array.getElem?_append_right (by omega),hs];by_cases h1:i=32
  ·subst h1;simp
  ·by_cases h2:i=33
   ·subst h2;simp[hs]
   ·obtain⟨j,rfl⟩:∃j,i=j+34:=⟨i-34,by omega⟩
    rw[ab (by omega)];simp[show j+34-32=j+2 by omega]
theorem bG.set{w:World}{b:ByteArray}(h:bG w gr f ws b a)(a':Nat):bG (w.setCell ⟨gr,33,none⟩ (.int .i64 (a':Nat))) gr f ws b a':=by
 refine⟨by have:=h.1;simpa[World.setCell]using this,?_⟩;rw[rH h.2,Kz]
theorem KA(b:ByteArray)(a:Nat):bits BinOp.and IntKind.u8 ((Cd.at8 b (a/8):Int)/2^(7-a%8)) 1=(Cd.ZV b a:Nat):=by
 have h1:=Xf b (a/8);have e0:((Cd.at8 b (a/8):Int)/2^(7-a%8))=((Cd.at8 b (a/8)/2^(7-a%8):Nat):Int):=by push_cast;rfl
 have h2:Cd.at8 b (a/8)/2^(7-a%8)<=Cd.at8 b (a/8):=Nat.div_le_self _ _;unfold Cd.ZV;rw[e0];generalize Cd.at8 b (a/8)/2^(7-a%8)=q at*;have h3:=bits_mask .u8 8 (by decide) wraps_u8 1 (by decide) (q:Int) (by omega) (by omega);have e:((2:Int)^1-1)=1:=by decide
 have e2:((2:Int)^1)=2:=by decide
 rw[e,e2]at h3;rw[h3];omega
def Only(g:Nat)(a w:World):Prop:=Below g a w/\w.heap.size=a.heap.size/\∀k,k≠g->w.heap[k]?=a.heap[k]?
theorem Only.refl(g:Nat)(a:World):Only g a a:=⟨Below.refl _ _,rfl,λ_ _=>rfl⟩
theorem Only.drewN{a w:World}(h:Only g a w)(n:Nat):Only g a (w.drewN n):=⟨below_drewN h.1 n,h.2.1,h.2.2⟩
theorem Only.set{a w:World}(h:Only g a w)(k:Nat)(v:Value):Only g a (w.setCell ⟨g,k,none⟩ v):=by
 refine⟨h.1.setCell (p:=⟨g,k,none⟩) (nl _) _,by have:=h.2.1;simpa[World.setCell]using this,λj hj=>?_⟩;rw[rI (λe=>hj e.symm)];exact h.2.2 j hj
theorem Only.trans{a b c:World}(h:Only g a b)(h':Only g b c):Only g a c:=⟨h.1.trans h'.1,h'.2.1.trans h.2.1,λk hk=>(h'.2.2 k hk).trans (h.2.2 k hk)⟩
theorem Only.own{a w:World}(h:Only g a w){t:TypeId}{sz n:Nat}{v:Value}{cs:List Value}(ho:a.ownsRow (g+1) t sz v n cs):w.ownsRow (g+1) t sz v n cs:=by
 refine⟨ho.1,?_⟩;rcases ho.2 with h0|⟨q,cap,cur,rfl,e1,e2,e3⟩
 ·exact .inl h0
 ·exact .inr ⟨q,cap,cur,rfl,e1,by rw[h.2.2 q (by omega)];exact e2,e3⟩
theorem KB(gr:Nat)(f ws:Nat->Int)(b:ByteArray)(a:Nat)(w:World)(hB:bG w gr f ws b a)(hs:b.size<=140737488355328)(ha:a<=8*b.size) :
 Calls prog 239 #[.pointer (some ⟨gr,0,none⟩)] w λe w'=>e=.returned (.int .i64 (XF f ws b 15 1 0 a).1)/\Only gr w w'/\bG w' gr f ws b (XF f ws b 15 1 0 a).2:=by
 obtain⟨r1,r2,hr⟩:∃r1 r2,XF f ws b 15 1 0 a=(r1,r2):=⟨_,_,rfl⟩
 rw[hr];have Hr:=Za hr;have hs':(b.size:Int)<=140737488355328:=by omega
 clear hr;go_enter func239,ntmps239
 go_wp2_with fail
 go_loopw [3,4] (λx i wr=>∃(m:Nat) (n word:Int) (A:Nat),m<=15/\i=.int .i64 n/\Hid (n=16-(m:Int))/\x=.int .i64 word/\0<=word/\word<2^(15-m)/\A<=8*b.size/\Hid (XF f ws b m n word A=(r1,r2))/\bG wr gr f ws b A/\Only gr w wr) (λ_ i _=>20-(intOf i).toNat)
 case atStart=>exact⟨15,1,0,a,by omega,rfl,by show _=_;omega,rfl,by omega,by decide,ha,Hr,hB,Only.refl _ _⟩
 case round =>
  clear hB Hr;obtain⟨m,n,word,A,hm,rfl,Hn,rfl,hw0,hw1,hA,Hr,hB,G⟩:=hrel;have c32:=hB.b;have pX:=hB.at_;by_cases hend:m=0\/8*b.size<=A
  ·have h9:XF f ws b m n word A=(-1,A):=by
    rcases hend with h|h
    ·subst h;rfl
    ·exact xY h
   have h8:=Hr.out.symm.trans h9;simp only[Prod.mk.injEq]at h8;obtain⟨rfl,rfl⟩:=h8;by_cases hm0:m=0
   ·have d1:decide (n<=15)=false:=by have:=Hn.out;simp;omega
    clear hend h9 hw1;go_wp2_with fail
    go_quiet (fail)
    go_wp2_with fail
    go_ret
    exact⟨rfl,G.drewN _,hB.below (below_drewN (bR _ _) _)⟩
   ·have d1:decide (n<=15)=true:=by have:=Hn.out;simp;omega
    have d2:=dF (by omega:¬((r2:Int)<8*(b.size:Int)));have d3:=dF (by omega:¬(r2<8*b.size));clear hend h9 hw1;go_wp2_with fail
    go_quiet (fail)
    go_wp2_with fail
    go_ret
    exact⟨rfl,G.drewN _,hB.below (below_drewN (bR _ _) _)⟩
  ·have hA1:A<8*b.size:=by omega
   obtain⟨m,rfl⟩:∃j,m=j+1:=⟨m-1,by omega⟩
   have d1:decide (n<=15)=true:=by have:=Hn.out;simp;omega
   have d2:=al (by omega:(A:Int)<8*(b.size:Int));have d3:=al (by omega:A<8*b.size)
   obtain⟨q,hq⟩:∃q,A/8=q:=⟨_,rfl⟩
   obtain⟨r,hr⟩:∃r,A%8=r:=⟨_,rfl⟩
   have rR:q<b.size:=by omega
   have e3:(A:Int).tmod 8=(r:Int):=by rw[Int.tmod_eq_emod_of_nonneg (by omega)];omega
   have e4:(A:Int).tdiv 8=(q:Int):=by rw[Int.tdiv_eq_ediv_of_nonneg (by omega)];omega
   have e5:(A:Int)%8=(r:Int):=by omega
   have e6:(A:Int)/8=(q:Int):=by omega
   have jL:Cd.at8 b q=b[q].toNat:=by unfold Cd.at8;rw[ZX b q rR];rfl
   obtain⟨x,hx⟩:∃x:Int,(b[q].toNat:Int)=x:=⟨_,rfl⟩
   have hbf:=KA b A;rw[hq,hr,jL,hx]at hbf;have hx0:0<=x:=by omega
   have hx1:x<=255:=by have:=b[q].toNat_lt;omega
   have Dm:r<8:=by omega
   have hw2:word<=32768:=by have h9:(2:Int)^(15-(m+1))<=2^15:=Cd.rb (by omega);omega
   have HW1:Hid (2*word+(Cd.ZV b A:Nat)<2^(15-m)):=by
    have h9:(2:Int)^(15-m)=2*2^(15-(m+1)):=by rw[show 15-m=(15-(m+1))+1 by omega,Int.pow_succ];omega
    have:=uM b A;show _<_;omega
   have hbl:=uM b A;have lJ:=Za λk (h:jK f ws n (2*word+(Cd.ZV b A:Nat))=some k)=>Hr.out.symm.trans (uK (by omega) h)
   have rS:=Za λ(h:jK f ws n (2*word+(Cd.ZV b A:Nat))=none)=>(Cd.uL (by omega) h).symm.trans Hr.out
   have xZ:Hid (jK f ws n (2*word+(Cd.ZV b A:Nat))=aat f ws n (2*word+(Cd.ZV b A:Nat)) 16):=rfl;have Hm:Hid (m<=15):=by show _<=_;omega
   have hn1:1<=n/\n<=15:=by have:=Hn.out;omega
   have KC:Hid (n+1=16-(m:Int)):=by have:=Hn.out;show _=_;omega
   have HA2:Hid (A+1<=8*b.size):=hA1;generalize Cd.ZV b A=y at*;clear hend Hr hw1 Hn jL hm
   have UK:Hid (A/8=q/\A%8=r):=⟨hq,hr⟩
   have UL:A<=1125899906842624:=by omega
   clear hq hr hA;go_wp2_with fail
   go_quiet (fail)
   go_wp2_with fail
   have hB2:=hB.below (below_drewN (bR wr.heap.size wr) nq);have G2:=G.drewN nq;clear hB G c32 pX;generalize wr.drewN nq=wq at*;have c32:=hB2.b;have pX:=hB2.at_;have oG:=hB2.frozen 33;go_quiet (fail)
   have hB3:=hB2.below (below_drewN (bR wq.heap.size wq) nq);have G3:=G2.drewN nq;clear hB2 G2 c32 pX oG;generalize wq.drewN nq=wy at*;have pX:=hB3.at_;have oG:=hB3.frozen 33;have hB4:bG (wy.setCell ⟨gr,33,none⟩ (.int .i64 ((A:Int)+1))) gr f ws b (A+1):=hB3.set (A+1);have G4:Only gr w (wy.setCell ⟨gr,33,none⟩ (.int .i64 ((A:Int)+1))):=G3.set 33 _;go_wp2_with fail
   clear hB3 G3 pX oG;generalize wy.setCell ⟨gr,33,none⟩ (.int .i64 ((A:Int)+1))=wz at*
   obtain⟨WD,ya⟩:∃WD:Int,2*word+(y:Int)=WD:=⟨_,rfl⟩
   rw[ya]at HW1 lJ rS xZ;have yb:0<=WD:=by omega
   rw[ya];clear ya;go_loop [52] (λi=>∃k:Nat,k<=16/\i=.int .i64 k/\Hid (aat f ws n WD k=none)) (λi=>16-(intOf i).toNat)
   case atStart=>exact⟨0,by omega,rfl,rfl⟩
   case round =>
    obtain⟨k,hk,rfl,hF⟩:=hrel;by_cases hlt:k<16
    ·have hk1:=al (by omega:(k:Int)<16);have hk2:=al (by omega:k<16);have cl:=hB4.l k hlt;have cw:=hB4.w k hlt
     have mh:Hid (f k=n/\ws k=WD->r1=(k:Int)/\r2=A+1):=λh=>by
      have h9:=Ky hF.out h (15-k);rw[show k+1+(15-k)=16 by omega,<-xZ.out]at h9;have h8:=lJ.out k h9;simpa using h8
     have mm:=Za λ(h:¬(f k=n/\ws k=WD))=>Dl hF.out h
     by_cases h1:f k=n
     ·by_cases h2:ws k=WD
      ·obtain⟨rfl,rfl⟩:=mh.out ⟨h1,h2⟩;have dd1:(f k==n)=true:=by simpa using h1
       have KD:(ws k==WD)=true:=by simpa using h2
       generalize f k=z1 at*;generalize ws k=z2 at*;clear h1 h2 mh mm;go_wp2_with fail
       go_ret
       exact⟨rfl,G4,hB4⟩
      ·have kB:=Za (mm.out (λh=>h2 h.2));have dd1:(f k==n)=true:=by simpa using h1
       have KD:(ws k==WD)=false:=by simpa using h2
       generalize f k=z1 at*;generalize ws k=z2 at*;clear h1 h2 mh mm;go_wp2_with fail
       exact⟨⟨k+1,by omega,by go_num,kB⟩,by simp[intOf];omega⟩
     ·have kB:=Za (mm.out (λh=>h1 h.1));have dd1:(f k==n)=false:=by simpa using h1
      generalize f k=z1 at*;clear h1 mh mm;go_wp2_with fail
      exact⟨⟨k+1,by omega,by go_num,kB⟩,by simp[intOf];omega⟩
    ·obtain rfl:k=16:=by omega
     have HZ:=Za (rS.out (xZ.out.trans hF.out));have HW2:=HW1.out;go_wp2_with fail
     go_roundw
     case rel=>exact⟨m,n+1,WD,A+1,Hm.out,by go_num,KC,rfl,yb,HW2,HA2.out,HZ,hB4,G4⟩
     case measure=>simp[intOf];omega
def Cd.end_(b:ByteArray)(a:Nat):Bool:=decide (b.size=(a+7)/8)&&(decide (a%8=0)||decide (Cd.at8 b (a/8)*2^(a%8)%256=0))
theorem KE(gr:Nat)(f ws:Nat->Int)(b:ByteArray)(a:Nat)(w:World)(hB:bG w gr f ws b a)(hs:b.size<=140737488355328)(ha:a<=8*b.size) :
 CB 240 #[.pointer (some ⟨gr,0,none⟩)] w (.bool (Cd.end_ b a)):=by
 have hs':(b.size:Int)<=140737488355328:=by omega
 have hab:a<=1125899906842624:=by omega
 have hab':(a:Int)<=1125899906842624:=by omega
 have c32:=hB.b;have pX:=hB.at_;have e7:((a:Int)+7).tdiv 8=(((a+7)/8:Nat):Int):=by rw[Int.tdiv_eq_ediv_of_nonneg (by omega)];omega
 have pC:(a+7)/8<=1125899906842624:=by omega
 by_cases h1:b.size=(a+7)/8
 ·have d1:((b.size:Int) != (((a+7)/8:Nat):Int))=false:=by rw[h1];simp
  have e3:(a:Int).tmod 8=((a%8:Nat):Int):=by rw[Int.tmod_eq_emod_of_nonneg (by omega)];omega
  by_cases h2:a%8=0
  ·have hE:Cd.end_ b a=true:=by simp[Cd.end_,h1,h2]
   rw[hE];rw[h2]at e3;have e3':(a:Int).tmod 8=0:=e3;have e9:(a:Int)%8=0:=by omega
   generalize (a+7)/8=q at*;clear h2 h1 hE e3;go_enter func240,ntmps240
   go_wp2_with fail
   go_quiet (fail)
   go_wp2_with fail
   go_quiet (fail)
   go_wp2_with fail
   go_ret
   exact⟨rfl,below_drewN (below_drewN (bR _ _) _) _⟩
  ·obtain⟨q,hq⟩:∃q,a/8=q:=⟨_,rfl⟩
   obtain⟨r,hr⟩:∃r,a%8=r:=⟨_,rfl⟩
   have rR:q<b.size:=by omega
   have jL:Cd.at8 b q=b[q].toNat:=by unfold Cd.at8;rw[ZX b q rR];rfl
   obtain⟨x,hx⟩:∃x:Int,(b[q].toNat:Int)=x:=⟨_,rfl⟩
   have e4:(a:Int).tdiv 8=(q:Int):=by rw[Int.tdiv_eq_ediv_of_nonneg (by omega)];omega
   have e5:(a:Int)%8=(r:Int):=by omega
   have e6:(a:Int)/8=(q:Int):=by omega
   rw[hr]at e3;have d2:((r:Int)==0)=false:=by simp;omega
   have Dm:r<8:=by omega
   have hr0:r≠0:=by omega
   have hE:Cd.end_ b a=(x*2^r%256==0):=by
    have e0:x*2^r%256=((b[q].toNat*2^r%256:Nat):Int):=by rw[<-hx];push_cast;rfl
    rw[e0,Cd.end_,hq,hr,jL];simp only[h1,decide_true,Bool.true_and,hr0,decide_false,Bool.false_or];generalize b[q].toNat*2^r%256=z;by_cases hz:z=0
    ·subst hz;rfl
    ·have:((z:Int)==0)=false:=by simp;omega
     rw[this];simp[hz]
   rw[hE];have hx0:0<=x:=by omega
   have hx1:x<=255:=by have:=b[q].toNat_lt;omega
   generalize (a+7)/8=q9 at*;clear h2 h1 hE hq hr jL hr0;go_enter func240,ntmps240
   go_wp2_with fail
   go_quiet (fail)
   go_wp2_with fail
   go_quiet (fail)
   go_wp2_with fail
   go_ret
   exact⟨rfl,below_drewN (below_drewN (bR _ _) _) _⟩
 ·have d1:((b.size:Int) != (((a+7)/8:Nat):Int))=true:=by simp;omega
  have hE:Cd.end_ b a=false:=by simp[Cd.end_,h1]
  rw[hE];generalize (a+7)/8=q at*;clear h1 hE;go_enter func240,ntmps240
  go_wp2_with fail
  go_quiet (fail)
  go_wp2_with fail
  go_ret
  exact⟨rfl,below_drewN (bR _ _) _⟩
end Go.Proofs.YtbjbjbpgmojcbacGreatDoor
namespace Go.Proofs.YtbjbjbpgmojcbacGreatDoor.Cd
open Ar Bk Cd Dk Im Tk Tr Vy
open Tryz
variable{b:ByteArray}{n x y:Int}{o:List UInt8}{a a1 a2 k:Nat}{f:Nat->Int}
theorem KF{ws:Nat->Int} :∀(m:Nat) (n word:Int) (a:Nat),a<=8*b.size->(XF f ws b m n word a).2<=8*b.size:=by
 intro m
 induction m with
 |zero=>intro n word a h;exact h
 |succ m ih =>
  intro n word a h;by_cases h0:8*b.size<=a
  ·rw[xY h0];exact h
  ·cases h1:jK f ws n (2*word+ZV b a) with
   |none=>rw[uL h0 h1];exact ih _ _ _ (by omega)
   |some s=>rw[uK h0 h1];show a+1<=_;omega
def Yt(f:Nat->Int)(b:ByteArray)(a:Nat):Int×Nat:=XF f (VM f) b 15 1 0 a
def bZ(f:Nat->Int)(b:ByteArray):Nat->Option (List UInt8×Nat)
 |0=>some ([],0)
 |k+1=>match bZ f b k with
  |none=>none
  |some (o,a)=>if(Yt f b a).1=-1\/(Yt f b (Yt f b a).2).1=-1 then none else some (o++[UInt8.ofNat ((Yt f b a).1*16+(Yt f b (Yt f b a).2).1).toNat],(Yt f b (Yt f b a).2).2)
theorem KG(h:bZ f b k=none):∀j,bZ f b (k+j)=none:=by
 intro j
 induction j with
 |zero=>exact h
 |succ j ih=>rw[<-Nat.add_assoc,bZ,ih]
theorem yc(h:bZ f b k=some (o,a))(h1:Yt f b a=(x,a1))(h2:Yt f b a1=(y,a2))(hx:¬(x=-1\/y=-1)):bZ f b (k+1)=some (o++[UInt8.ofNat (x*16+y).toNat],a2):=by
 rw[bZ,h];simp only[h1,h2];rw[ab hx]
theorem ye{n:Nat}(hk:k<n)(h:bZ f b k=some (o,a))(h1:Yt f b a=(x,a1))(h2:Yt f b a1=(y,a2))(hx:x=-1\/y=-1):bZ f b n=none:=by
 have:bZ f b (k+1)=none:=by
  rw[bZ,h];simp only[h1,h2];rw[ax hx]
 have h2:=KG this (n-(k+1))
 rwa [show k+1+(n-(k+1))=n by omega]at h2
def VP(f:Nat->Int)(b:ByteArray)(n:Int):ByteArray×Int :=
 if Wj f≠0 then(⟨#[]⟩,Wj f) else if n<0\/1024<n then(⟨#[]⟩,3) else match bZ f b n.toNat with
  |none=>(⟨#[]⟩,1)
  |some (o,a)=>if end_ b a=true then(⟨o.toArray⟩,0) else(⟨#[]⟩,1)
theorem iO(hc:Wj f=0)(hn:¬(n<0\/1024<n))(h:bZ f b n.toNat=none):VP f b n=(⟨#[]⟩,1):=by
 rw[VP,ab (λh=>h hc),ab hn,h]
theorem kj(hc:Wj f=0)(hn:¬(n<0\/1024<n))(h:bZ f b n.toNat=some (o,a)):VP f b n=if end_ b a=true then(⟨o.toArray⟩,0) else(⟨#[]⟩,1):=by
 rw[VP,ab (λh=>h hc),ab hn,h]
end Go.Proofs.YtbjbjbpgmojcbacGreatDoor.Cd
namespace Go.Proofs.YtbjbjbpgmojcbacGreatDoor.Cd
open Ar Bk Cd Dk Im Tk Tr Vy
open Tryz
variable{b s:ByteArray}{n word:Int}{xs ys:List Bool}{N a i j:Nat}{f g h ws:Nat->Int}
theorem uN :∀(m n:Nat) (word:Int) (a:Nat),1<=n->(XF f ws b m n word a).1 ≠ -1->∃s d:Nat,XF f ws b m n word a=((s:Int),a+d)/\s<16/\f s=((n+d:Nat):Int)-1/\1<=d/\d<=m/\a+d<=8*b.size/\ws s/2^d=word/\∀j,j<d->(ZV b (a+j):Int)=ws s/2^(d-1-j)%2:=by
 intro m
 induction m with
 |zero=>intro n word a _ h;exact absurd rfl h
 |succ m ih =>
  intro n word a hn h;have hb:=uM b a;by_cases h0:8*b.size<=a
  ·rw[xY h0]at h;exact absurd rfl h
  ·cases h1:jK f ws n (2*word+ZV b a) with
   |none =>
    rw[uL h0 h1]at h |-
    have hnn:((n:Int)+1)=((n+1:Nat):Int):=by omega
    rw[hnn]at h |-
    obtain⟨s,d,e,hs,hf,hd,hm,hz,hw,hj⟩:=ih (n+1) _ (a+1) (by omega) h
    have e1:ws s/2^(d+1)=word:=by
     rw[Int.pow_succ,<-Int.ediv_ediv_of_nonneg (by have:=pow_pos d;omega),hw];omega
    refine⟨s,d+1,by rw[e,show a+1+d=a+(d+1) by omega],hs,by omega,by omega,by omega,by omega,e1,λj hjd=>?_⟩
    cases j with
    |zero=>rw[show d+1-1-0=d by omega,hw,Nat.add_zero];omega
    |succ j =>
     have:=hj j (by omega);rw[show a+1+j=a+(j+1) by omega]at this;rw[this,show d+1-1-(j+1)=d-1-j by omega]
   |some s =>
    rw[uK h0 h1]
    have hfi:∀k,aat f ws n (2*word+ZV b a) k=some s->s<k/\f s=n/\ws s=2*word+ZV b a:=by
     intro k
     induction k with
     |zero=>intro h;simp[aat]at h
     |succ k ih2 =>
      intro h;rw[aat]at h
      cases hq:aat f ws n (2*word+ZV b a) k with
      |some t =>
       rw[hq]at h;simp only[Option.some.injEq]at h;subst h;have:=ih2 hq;exact⟨by omega,this.2⟩
      |none =>
       rw[hq]at h;simp only at h;split at h
       ·rename_i h9
        simp only[Option.some.injEq]at h;subst h;exact⟨by omega,h9⟩
       ·simp at h
    obtain⟨q1,q2,q3⟩:=hfi 16 h1;refine⟨s,1,rfl,q1,by omega,by omega,by omega,by omega,by rw[q3];simp;omega,λj hj=>?_⟩;obtain rfl:j=0:=by omega
    rw[q3];simp;omega
theorem KH{s:Nat}(h1:f s=n)(h2:ws s=word)(hu:∀i,i<16->f i=n->ws i=word->i=s):∀k,k<=16->aat f ws n word k=if s<k then some s else none:=by
 intro k
 induction k with
 |zero=>intro _;rfl
 |succ k ih =>
  intro hk;rw[aat,ih (by omega)];by_cases h:s<k
  ·rw[ax h];simp only;rw[ax (by omega)]
  ·rw[ab h];simp only;by_cases e:s=k
   ·subst e;rw[ax ⟨h1,h2⟩,ax (by omega)]
   ·rw[ab (λh9=>e (hu k (by omega) h9.1 h9.2).symm),ab (by omega)]
theorem KI(hu:∀i,i<16->f i=n->ws i≠word):∀k,k<=16->aat f ws n word k=none:=by
 intro k
 induction k with
 |zero=>intro _;rfl
 |succ k ih =>
  intro hk;exact Dl (ih (by omega)) (λh=>hu k (by omega) h.1 h.2)
theorem Dn{s:Nat}(hs:s<16){N:Nat}(hN:f s=(N:Int))
 (hu:∀i,i<16->f i=f s->ws i=ws s->i=s) (hp:∀n:Nat,1<=n->n<N->∀i,i<16->f i=(n:Int)->ws i≠ws s/2^(N-n)) :
 ∀(d m n:Nat) (word:Int) (a:Nat),1<=n->n+d=N+1->1<=d->d<=m->a+d<=8*b.size->ws s/2^d=word->(∀j,j<d->(ZV b (a+j):Int)=ws s/2^(d-1-j)%2)->XF f ws b m n word a=((s:Int),a+d):=by
 intro d
 induction d with
 |zero=>intro m n word a _ _ h;omega
 |succ d ih =>
  intro m n word a hn1 hn _ hm hb hw hj
  obtain⟨m,rfl⟩:∃j,m=j+1:=⟨m-1,by omega⟩
  have hb0:=hj 0 (by omega);rw[Nat.add_zero,show d+1-1-0=d by omega]at hb0
  have hw1:2*word+(ZV b a:Int)=ws s/2^d:=by
   rw[Int.pow_succ,<-Int.ediv_ediv_of_nonneg (by have:=pow_pos d;omega)]at hw;omega
  by_cases h0:d=0
  ·subst h0;rw[Int.pow_zero,Int.ediv_one]at hw1;obtain rfl:n=N:=by omega
   refine uK (by omega) ?_;rw[hw1,jK,KH hN rfl (λi hi h1 h2=>hu i hi (by rw[h1,hN]) h2) 16 (nl _),ax hs]
  ·rw[uL (by omega) (by rw[hw1,jK];exact KI (λi hi h1=>by have:=hp n hn1 (by omega) i hi h1;rwa [show N-n=d by omega]at this) 16 (nl _)),hw1,show((n:Int)+1)=((n+1:Nat):Int) by omega]
   rw[ih m (n+1) _ (a+1) (by omega) (by omega) (by omega) (by omega) (by omega) rfl (λj hjd=>by
    have:=hj (j+1) (by omega);rw[show a+(j+1)=a+1+j by omega,show d+1-1-(j+1)=d-1-j by omega]at this
    exact this),show a+1+d=a+(d+1) by omega]
theorem yg(f:Nat->Int)(n:Int)(x:Int×(Nat->Int)):∀k,(∀i,¬(i<k/\f i=n)->(wI f n x k).2 i=x.2 i)/\(∀i,i<k->f i=n->x.1<=(wI f n x k).2 i/\(wI f n x k).2 i<(wI f n x k).1)/\(∀i j,i<j->j<k->f i=n->f j=n->(wI f n x k).2 i<(wI f n x k).2 j):=by
 intro k
 induction k with
 |zero=>exact⟨λi _=>rfl,λi h=>by omega,λi j _ h=>by omega⟩
 |succ k ih =>
  obtain⟨i1,i2,i3⟩:=ih;have hb:=kE f n x k;rw[wI];by_cases h:f k=n
  ·rw[ax h];simp only;refine⟨λi hi=>?_,λi hi hf=>?_,λi j hij hj hf hg=>?_⟩
   ·have e:i≠k:=λe=>hi ⟨by omega,by rw[e];exact h⟩
    rw[Zl _ _ e];exact i1 i (λh9=>hi ⟨by omega,h9.2⟩)
   ·by_cases e:i=k
    ·subst e;rw[ZL];omega
    ·rw[Zl _ _ e];have:=i2 i (by omega) hf;omega
   ·rw[Zl _ _ (by omega)];by_cases e:j=k
    ·subst e;rw[ZL];have:=i2 i (by omega) hf;omega
    ·rw[Zl _ _ e];exact i3 i j hij (by omega) hf hg
  ·rw[ab h];refine⟨λi hi=>i1 i (λh9=>hi ⟨by omega,h9.2⟩),λi hi hf=>?_,λi j hij hj hf hg=>?_⟩
   ·have e:i≠k:=λe=>h (by rw[<-e];exact hf)
    exact i2 i (by omega) hf
   ·have e:j≠k:=λe=>h (by rw[<-e];exact hg)
    exact i3 i j hij (by omega) hf hg
theorem KJ(f:Nat->Int)(n:Nat):(wO f n).1*2<=(wO f (n+1)).1:=by
 rw[wO];exact(kE f _ _ 16).1
theorem KL(f:Nat->Int)(n:Nat):∀j,(wO f n).1*2^j<=(wO f (n+j)).1:=by
 intro j
 induction j with
 |zero=>simp
 |succ j ih =>
  have:=KJ f (n+j);rw[<-Nat.add_assoc,Int.pow_succ,<-Int.mul_assoc];omega
theorem uO(f:Nat->Int)(i:Nat)(n:Nat)(hf:f i=((n+1:Nat):Int)):∀j,(wO f (n+1+j)).2 i=(wO f (n+1)).2 i:=by
 intro j
 induction j with
 |zero=>rfl
 |succ j ih =>
  rw[<-Nat.add_assoc,wO,(yg f _ _ 16).1 i (λh=>by omega)];exact ih
theorem yh{n:Nat}(hi:i<16)(hn:n+1<=15)(hf:f i=((n+1:Nat):Int)):(wO f n).1*2<=VM f i/\VM f i<(wO f (n+1)).1:=by
 have h:=uO f i n hf (15-(n+1));rw[show n+1+(15-(n+1))=15 by omega]at h;rw[VM,h,wO];exact(yg f _ _ 16).2.1 i hi hf
theorem ei{n:Nat}(hi:i<16)(hj:j<16)(hn:n+1<=15)(hf:f i=((n+1:Nat):Int))(hg:f j=((n+1:Nat):Int))(h:VM f i=VM f j):i=j:=by
 have h1:=uO f i n hf (15-(n+1));have h2:=uO f j n hg (15-(n+1));rw[show n+1+(15-(n+1))=15 by omega]at h1 h2;rw[VM,h1,h2,wO]at h;have h3:=(yg f (n+1:Nat) ((wO f n).1*2,(wO f n).2) 16).2.2;rcases Nat.lt_trichotomy i j with h4|h4|h4
 ·have:=h3 i j h4 hj hf hg;omega
 ·exact h4
 ·have:=h3 j i h4 hi hg hf;omega
theorem Dp{s:Nat}(hs:s<16)(hN:f s=(N:Int))(hN1:1<=N)(Dq:N<=15):∀n:Nat,1<=n->n<N->∀i,i<16->f i=(n:Int)->VM f i≠VM f s/2^(N-n):=by
 intro n hn1 hn i hi hf h
 obtain⟨n,rfl⟩:∃j,n=j+1:=⟨n-1,by omega⟩
 obtain⟨N,rfl⟩:∃j,N=j+1:=⟨N-1,by omega⟩
 have h1:=(yh hi (by omega) hf).2;have h2:=(yh hs (by omega) hN).1;have h3:=KL f (n+1) (N-(n+1));rw[show n+1+(N-(n+1))=N by omega]at h3;have hp:=pow_pos (N+1-(n+1))
 have h4:(wO f (n+1)).1*2^(N+1-(n+1))<=VM f s:=by
  rw[show N+1-(n+1)=(N-(n+1))+1 by omega,Int.pow_succ,<-Int.mul_assoc];omega
 have h5:=(Int.le_ediv_iff_mul_le (by omega)).2 h4;omega
theorem KM(f:Nat->Int)(n:Int)(x:Int×(Nat->Int))(c:Int):∀k,((wI f n x k).1-x.1)*c=YY (λi=>if f i=n then c else 0) k:=by
 intro k
 induction k with
 |zero=>simp[wI,YY]
 |succ k ih =>
  rw[wI,YY];by_cases h:f k=n
  ·rw[ax h,ax h,<-ih];simp only;rw[Int.sub_mul,Int.sub_mul,Int.add_mul];omega
  ·rw[ab h,ab h,ih];omega
theorem KN :∀k,YY (λi=>g i+h i) k=YY g k+YY h k:=by
 intro k
 induction k with
 |zero=>rfl
 |succ k ih=>rw[YY,YY,YY,ih];omega
theorem Dr :∀k,(∀i,i<k->g i=h i)->YY g k=YY h k:=by
 intro k
 induction k with
 |zero=>intro _;rfl
 |succ k ih=>intro e;rw[YY,YY,ih (λi hi=>e i (by omega)),e k (by omega)]
theorem KO :∀k,(∀i,i<k->g i<=h i)->YY g k<=YY h k:=by
 intro k
 induction k with
 |zero=>intro _;exact Int.le_refl _
 |succ k ih=>intro e;rw[YY,YY];have:=e k (by omega);have:=ih (λi hi=>e i (by omega));omega
theorem KP(f:Nat->Int):∀k,Wp f k=YY (λi=>YF (f i)) k:=by
 intro k
 induction k with
 |zero=>rfl
 |succ k ih=>rw[Wp,YY,ih]
theorem KQ(f:Nat->Int)(hr:Wk f 15 16):∀n,n<=15->(wO f n).1*2^(15-n)=YY (λi=>if f i<=(n:Int) then YF (f i) else 0) 16:=by
 intro n
 induction n with
 |zero =>
  intro _
  rw[Dr (h:=λ_=>0) 16 (λi hi=>by
   have:=hr i hi;by_cases h:f i<=((0:Nat):Int)
   ·rw[ax h,aam (by omega)]
   ·rw[ab h])]
  simp[wO,YY]
 |succ n ih =>
  intro hn;have h1:=ih (by omega);have h2:=KM f (n+1:Nat) ((wO f n).1*2,(wO f n).2) (2^(15-(n+1))) 16
  have h3:YY (λi=>if f i<=((n+1:Nat):Int) then YF (f i) else 0) 16=YY (λi=>(if f i<=(n:Int) then YF (f i) else 0)+(if f i=((n+1:Nat):Int) then 2^(15-(n+1)) else 0)) 16:=Dr 16 (λi hi=>by
   by_cases e1:f i<=(n:Int)
   ·rw[ax (by omega),ax e1,ab (by omega)];omega
   ·by_cases e2:f i=((n+1:Nat):Int)
    ·rw[ax (by omega),ab e1,ax e2,e2,pK (by omega),show(15-((n+1:Nat):Int)).toNat=15-(n+1) by omega];omega
    ·rw[ab (by omega),ab e1,ab e2];omega)
  have e9:wI f (n+1:Nat) ((wO f n).1*2,(wO f n).2) 16=wO f (n+1):=rfl;rw[e9]at h2;rw[h3,KN,<-h1,<-h2,Int.sub_mul,show 15-n=(15-(n+1))+1 by omega,Int.pow_succ,Int.mul_assoc,Int.mul_comm 2 (2^(15-(n+1)))];omega
theorem Ds(h:Wj f=0){s N:Nat}(hs:s<16)(hN:f s=(N:Int))(hN1:1<=N)(Dq:N<=15):VM f s<2^N:=by
 obtain⟨h1,_,h3⟩:=Yc h
 obtain⟨N,rfl⟩:∃j,N=j+1:=⟨N-1,by omega⟩
 have h2:=(yh hs (by omega) hN).2;have h4:=KQ f h1 (N+1) Dq
 have h5:YY (λi=>if f i<=((N+1:Nat):Int) then YF (f i) else 0) 16<=YY (λi=>YF (f i)) 16:=KO 16 (λi hi=>by
  have:=h1 i hi;by_cases e:f i<=((N+1:Nat):Int)
  ·rw[ax e];exact Int.le_refl _
  ·rw[ab e];exact(me this.1 this.2).1)
 rw[<-KP]at h5;have h6:(32768:Int)=2^(N+1)*2^(15-(N+1)):=by rw[<-Int.pow_add,show N+1+(15-(N+1))=15 by omega];rfl
 have hp:=pow_pos (15-(N+1));have h7:(wO f (N+1)).1*2^(15-(N+1))<=2^(N+1)*2^(15-(N+1)):=by omega
 have h8:=Int.le_of_mul_le_mul_right h7 (by omega);omega
theorem KR(word:Int):∀k j,j<k->(WN word k).getD j false=decide (word/2^(k-1-j)%2=1):=by
 intro k
 induction k with
 |zero=>intro j h;omega
 |succ k ih =>
  intro j hj
  cases j with
  |zero=>rw[WN];rfl
  |succ j =>
   rw[WN];have:=ih j (by omega);rw[List.getD_cons_succ,this,show k+1-1-(j+1)=k-1-j by omega]
theorem KS(word:Int)(k:Nat):(WE (decide (word/2^k%2=1)):Int)=word/2^k%2:=by
 unfold WE;by_cases h:word/2^k%2=1
 ·simp[h]
 ·have:word/2^k%2=0:=by omega
  simp[this]
theorem yi(h:i<xs.length):aau (xs++ys) i=aau xs i:=by
 simp[aau,List.getD_eq_getElem?_getD,List.getElem?_append_left h]
theorem yj :aau (xs++ys) (xs.length+i)=aau ys i:=by
 simp[aau,List.getD_eq_getElem?_getD,List.getElem?_append_right]
theorem uP(word:Int){k j:Nat}(h:j<k):(aau (WN word k) j:Int)=word/2^(k-1-j)%2:=by
 rw[aau,KR word k j h,KS]
theorem Dt(bs:List Bool){j:Nat}(h:j<(bs.length+7)/8):at8 ⟨(Wc bs).toArray⟩ j=eI bs j:=by
 unfold at8;simp only;rw[pQ bs h];have:=Cy bs j;simp;omega
theorem KT(bs:List Bool)(j r:Nat)(hr:r<8):eI bs j/2^(7-r)%2=aau bs (8*j+r):=by
 have h0:=eH bs (8*j);have h1:=eH bs (8*j+1);have h2:=eH bs (8*j+2);have h3:=eH bs (8*j+3);have h4:=eH bs (8*j+4);have h5:=eH bs (8*j+5);have h6:=eH bs (8*j+6);have h7:=eH bs (8*j+7);unfold eI;obtain rfl|rfl|rfl|rfl|rfl|rfl|rfl|rfl:r=0\/r=1\/r=2\/r=3\/r=4\/r=5\/r=6\/r=7:=by omega
 all_goals
  simp only[Nat.add_zero,Nat.reduceSub,Nat.reducePow];omega
theorem KU(bs:List Bool){i:Nat}(h:i<8*((bs.length+7)/8)):ZV ⟨(Wc bs).toArray⟩ i=aau bs i:=by
 rw[ZV,Dt bs (by omega),KT bs _ _ (by omega),show 8*(i/8)+i%8=i by omega]
theorem rU(bs:List Bool):(⟨(Wc bs).toArray⟩:ByteArray).size=(bs.length+7)/8:=by
 show(Wc bs).toArray.size=_;simp[lH]
theorem Du(bs:List Bool):end_ ⟨(Wc bs).toArray⟩ bs.length=true:=by
 rw[end_,rU];by_cases h:bs.length%8=0
 ·simp[h]
 ·rw[Dt bs (by omega)];have hn:bs.length=8*(bs.length/8)+bs.length%8:=by omega
  have hm:=(xA bs false (bs.length/8) (bs.length%8) (by omega) hn).2;have hr:bs.length%8<8:=by omega
  generalize bs.length%8=r at*;generalize eI bs (bs.length/8)=x at*
  have:x*2^r%256=0:=by
   obtain rfl|rfl|rfl|rfl|rfl|rfl|rfl|rfl:r=0\/r=1\/r=2\/r=3\/r=4\/r=5\/r=6\/r=7:=by omega
   all_goals
    simp only[Nat.reduceSub,Nat.reducePow]at hm |-
    omega
  simp[this]
theorem Dv(h:Wj f=0){s:Nat}(hs:s<16)(h0:f s≠0)(pre post:List Bool):Yt f ⟨(Wc (pre++VR f s++post)).toArray⟩ pre.length=((s:Int),(pre++VR f s).length):=by
 obtain⟨h1,_,_⟩:=Yc h;have h2:=h1 s hs
 obtain⟨N,hN⟩:∃N:Nat,f s=(N:Int):=⟨(f s).toNat,by omega⟩
 have hl:(VR f s).length=N:=by rw[VR,nG,hN];rfl
 have hlt:=Ds h hs hN (by omega) (by omega);have h9:=rJ f s;rw[Yt,List.length_append,hl];refine Dn hs hN (λi hi e1 e2=>?_) (λn hn1 hn i hi e1=>Dp hs hN (by omega) (by omega) n hn1 hn i hi e1) N 15 1 0 _ (by omega) (by omega) (by omega) (by omega) ?_ (Int.ediv_eq_zero_of_lt h9.1 hlt) (λj hj=>?_)
 ·exact ei (n:=N-1) hi hs (by omega) (by omega) (by omega) e2
 ·rw[rU];simp only[List.length_append,hl];omega
 ·rw[KU _ (by simp only[List.length_append,hl];omega),yi (by simp only[List.length_append,hl];omega),yj,VR,hN];exact uP _ hj
theorem KV{t:ByteArray} :∀k,(∀i,i<k->at8 s i=at8 t i)->Yd f s k=Yd f t k:=by
 intro k
 induction k with
 |zero=>intro _;rfl
 |succ k ih=>intro h;rw[Yd,Yd,ih (λi hi=>h i (by omega)),h k (by omega)]
theorem KW{k:Nat} :∀j bs,Yd f s (k+j)=some bs->∃b1 b2,Yd f s k=some b1/\bs=b1++b2:=by
 intro j
 induction j with
 |zero=>intro bs h;exact⟨bs,[],h,by simp⟩
 |succ j ih =>
  intro bs h;rw[<-Nat.add_assoc,Yd]at h
  cases hq:Yd f s (k+j) with
  |none=>rw[hq]at h;simp at h
  |some b3 =>
   rw[hq]at h;simp only at h;split at h
   ·simp at h
   ·simp only[Option.some.injEq]at h;obtain⟨b1,b2,e1,e2⟩:=ih b3 hq;exact⟨b1,b2++VR f (at8 s (k+j)/16)++VR f (at8 s (k+j)%16),e1,by rw[<-h,e2];simp⟩
theorem Dw(s:ByteArray)(k:Nat):UInt8.ofNat (at8 s k)=s.data.toList[k]?.getD 0:=by
 unfold at8;exact UInt8.ofNat_toNat ..
theorem Xw(s:ByteArray):s.data.toList.length=s.size:=by cases s;simp only[Array.length_toList];rfl
theorem KX(h:Wj f=0){s:ByteArray}{bs:List Bool}(hw:Yd f s s.size=some bs):∀k,k<=s.size->∃b1 b2,Yd f s k=some b1/\bs=b1++b2/\bZ f ⟨(Wc bs).toArray⟩ k=some (s.data.toList.take k,b1.length):=by
 intro k
 induction k with
 |zero=>intro _;exact⟨[],bs,rfl,rfl,by simp[bZ]⟩
 |succ k ih =>
  intro hk;obtain⟨b1,b2,e1,e2,e3⟩:=ih (by omega);obtain⟨c1,c2,g1,g2⟩:=KW (k:=k+1) (s.size-(k+1)) bs (by rw[show k+1+(s.size-(k+1))=s.size by omega];exact hw);have g1':=g1;rw[Yd,e1]at g1;simp only at g1;split at g1
  ·simp at g1
  ·rename_i hz
   simp only[Option.some.injEq]at g1;have wT:=Xf s k;have r1:=Dv h (s:=at8 s k/16) (by omega) (λe=>hz (.inl e)) b1 (VR f (at8 s k%16)++c2);have r2:=Dv h (s:=at8 s k%16) (by omega) (λe=>hz (.inr e)) (b1++VR f (at8 s k/16)) c2;have eb:bs=b1++VR f (at8 s k/16)++(VR f (at8 s k%16)++c2):=by rw[g2,<-g1];simp
   have KY:bs=b1++VR f (at8 s k/16)++VR f (at8 s k%16)++c2:=by rw[g2,<-g1]
   rw[<-eb]at r1;rw[<-KY]at r2;refine⟨c1,c2,g1',g2,?_⟩;rw[yc e3 r1 r2 (by omega),<-g1];have e16:(((at8 s k/16:Nat):Int)*16+((at8 s k%16:Nat):Int)).toNat=at8 s k:=by omega
   rw[e16,Dw,List.take_add_one];have hkl:k<s.data.toList.length:=by rw[Xw];omega
   rw[List.getElem?_eq_getElem hkl];rfl
theorem KZ(h:(VO f s).2=0):VP f (VO f s).1 (s.size:Nat)=(s,0):=by
 have hc:Wj f=0:=by
  by_cases e:Wj f=0
  ·exact e
  ·rw[VO,ax e]at h;exact absurd h e
 have hs:¬1024<s.size:=by
  intro e;rw[VO,ab (λh=>h hc),ax e]at h;exact absurd h (by decide)
 cases hq:Yd f s s.size with
 |none=>rw[VO,ab (λh=>h hc),ab hs,hq]at h;exact absurd h (by decide)
 |some bs =>
  have e:(VO f s).1=⟨(Wc bs).toArray⟩:=by rw[VO,ab (λh=>h hc),ab hs,hq]
  obtain⟨b1,b2,e1,e2,e3⟩:=KX hc hq s.size (nl _);rw[hq]at e1;simp only[Option.some.injEq]at e1;subst e1;rw[e,VP,ab (λh=>h hc),ab (by omega),Int.toNat_natCast,e3];simp only;rw[ax (Du bs),List.take_of_length_le (by rw[Xw];exact nl _)]
theorem K6{bs:List Bool}(h:∀j,j<N->(ZV b (a+j):Int)=word/2^(N-1-j)%2)(hl:bs.length=a)(hb:∀i,i<a->ZV b i=aau bs i):∀i,i<a+N->ZV b i=aau (bs++WN word N) i:=by
 intro i hi;by_cases h1:i<a
 ·rw[yi (by omega)];exact hb i h1
 ·obtain⟨j,rfl⟩:∃j,i=a+j:=⟨i-a,by omega⟩
  have h2:=h j (by omega);rw[<-uP word (by omega:j<N)]at h2;have h3:aau (bs++WN word N) (bs.length+j)=aau (WN word N) j:=yj;rw[hl]at h3;omega
theorem Dx(h:(Yt f b a).1 ≠ -1){bs:List Bool}(hl:bs.length=a)(hb:∀i,i<a->ZV b i=aau bs i) :
 ∃s:Nat,s<16/\f s≠0/\Yt f b a=((s:Int),(bs++VR f s).length)/\(bs++VR f s).length<=8*b.size/\∀i,i<(bs++VR f s).length->ZV b i=aau (bs++VR f s) i:=by
 obtain⟨s,d,e,hs,hf,hd,hm,hz,hw,hj⟩:=uN 15 1 0 a (nl _) h;have hfd:f s=(d:Int):=by omega
 have ec:VR f s=WN (VM f s) d:=by rw[VR,hfd];rfl
 have el:(bs++VR f s).length=a+d:=by rw[List.length_append,ec,nG,hl]
 refine⟨s,hs,by omega,by rw[el];exact e,by rw[el];exact hz,?_⟩;rw[el,ec];exact K6 hj hl hb
theorem yk :∀k o a,bZ f b k=some (o,a)->∃bs,o.length=k/\bs.length=a/\a<=8*b.size/\Yd f ⟨o.toArray⟩ k=some bs/\∀i,i<a->ZV b i=aau bs i:=by
 intro k
 induction k with
 |zero =>
  intro o a h;simp only[bZ,Option.some.injEq,Prod.mk.injEq]at h;obtain⟨rfl,rfl⟩:=h;exact⟨[],rfl,rfl,by omega,rfl,λi h=>by omega⟩
 |succ k ih =>
  intro o a h;rw[bZ]at h
  cases hq:bZ f b k with
  |none=>rw[hq]at h;simp at h
  |some x =>
   obtain⟨o1,a1⟩:=x;rw[hq]at h;simp only at h;split at h
   ·simp at h
   ·rename_i hne
    obtain⟨bs,l1,l2,l3,e1,e2⟩:=ih o1 a1 hq;obtain⟨s,hs,fs,es,zs,ts⟩:=Dx (f:=f) (b:=b) (λh9=>hne (.inl h9)) l2 e2;rw[es]at h hne;simp only at h hne;obtain⟨t,ht,ft,et,zt,tt⟩:=Dx (f:=f) (b:=b) (λh9=>hne (.inr h9)) rfl ts;rw[et]at h;simp only[Option.some.injEq,Prod.mk.injEq]at h;obtain⟨rfl,rfl⟩:=h
    have a8:at8 ⟨(o1++[UInt8.ofNat ((s:Int)*16+(t:Int)).toNat]).toArray⟩ k=16*s+t:=by
     unfold at8;simp only;rw[List.getElem?_append_right (by omega),l1,Nat.sub_self];simp;omega
    refine⟨bs++VR f s++VR f t,by simp[l1],rfl,zt,?_,tt⟩
    rw[Yd,KV (t:=⟨o1.toArray⟩) k (λi hi=>by
     unfold at8;simp only
     rw[List.getElem?_append_left (by omega)]),e1]
    simp only;rw[a8,show(16*s+t)/16=s by omega,show(16*s+t)%16=t by omega,ab (by omega)]
theorem K7(x:Nat)(hx:x<256):x=x/2^7%2*128+x/2^6%2*64+x/2^5%2*32+x/2^4%2*16+x/2^3%2*8+x/2^2%2*4+x/2^1%2*2+x/2^0%2:=by
 simp only[Nat.reducePow];omega
theorem mn(b:ByteArray)(j r:Nat)(hr:r<8):ZV b (8*j+r)=at8 b j/2^(7-r)%2:=by
 rw[ZV,show(8*j+r)/8=j by omega,show(8*j+r)%8=r by omega]
theorem K8{bs:List Bool}(h:∀r,r<8->ZV b (8*j+r)=aau bs (8*j+r)):at8 b j=eI bs j:=by
 rw[K7 _ (Xf b j),eI,<-h 1 (by omega),<-h 2 (by omega),<-h 3 (by omega),<-h 4 (by omega),<-h 5 (by omega),<-h 6 (by omega),<-h 7 (by omega)];have h0:=h 0 (by omega);rw[Nat.add_zero]at h0;rw[<-h0];rw[mn b j 1 (by omega),mn b j 2 (by omega),mn b j 3 (by omega),mn b j 4 (by omega),mn b j 5 (by omega),mn b j 6 (by omega),mn b j 7 (by omega)];have:=mn b j 0 (by omega);rw[Nat.add_zero]at this;rw[this]
theorem Dy{bs:List Bool}(hl:bs.length=a)(hb:∀i,i<a->ZV b i=aau bs i)(he:end_ b a=true):b=⟨(Wc bs).toArray⟩:=by
 rw[end_,Bool.and_eq_true,decide_eq_true_eq,Bool.or_eq_true,decide_eq_true_eq,decide_eq_true_eq]at he;obtain⟨hsz,hz⟩:=he
 have zero:∀i,a<=i->i<8*b.size->ZV b i=aau bs i:=by
  intro i h1 h2;rw[ji bs (by omega)]
  have hz1:at8 b (a/8)*2^(a%8)%256=0:=by
   rcases hz with h|h
   ·omega
   ·exact h
  have hj:i/8=a/8:=by omega
  rw[ZV,hj];have hx:=Xf b (a/8);have hr:a%8<=i%8:=by omega
  have hr2:i%8<8:=by omega
  generalize at8 b (a/8)=x at*;generalize a%8=r at*;generalize i%8=q at*;obtain rfl|rfl|rfl|rfl|rfl|rfl|rfl|rfl:r=0\/r=1\/r=2\/r=3\/r=4\/r=5\/r=6\/r=7:=by omega
  all_goals
   obtain rfl|rfl|rfl|rfl|rfl|rfl|rfl|rfl:q=0\/q=1\/q=2\/q=3\/q=4\/q=5\/q=6\/q=7:=by omega
   all_goals
    simp only[Nat.reduceSub,Nat.reducePow]at*;omega
 have all:=λj (hj:j<b.size)=>K8 (λr hr=>by
  by_cases h:8*j+r<a
  ·exact hb _ h
  ·exact zero _ (by omega) (by omega))
 have hll:b.data.toList=Wc bs:=by
  apply List.ext_getElem?;intro i;by_cases hi:i<b.size
  ·rw[pQ bs (by omega),<-all i hi,Dw,List.getElem?_eq_getElem (by rw[Xw];exact hi)];rfl
  ·rw[List.getElem?_eq_none (by rw[Xw];omega),List.getElem?_eq_none (by rw[lH];omega)]
 cases b with
 |mk d =>
  simp only at hll;rw[<-hll]
theorem Dz(h:(VP f b n).2=0):VO f (VP f b n).1=(b,0)/\((VP f b n).1.size:Int)=n:=by
 have hc:Wj f=0:=by
  by_cases e:Wj f=0
  ·exact e
  ·rw[VP,ax e]at h;exact absurd h e
 have hn:¬(n<0\/1024<n):=by
  intro e;rw[VP,ab (λh=>h hc),ax e]at h;simp at h
 cases hq:bZ f b n.toNat with
 |none=>rw[iO hc hn hq]at h;simp at h
 |some x =>
  obtain⟨o,a⟩:=x;have e:=kj hc hn hq;by_cases he:end_ b a=true
  ·rw[ax he]at e;obtain⟨bs,l1,l2,l3,e1,e2⟩:=yk _ o a hq;rw[e]
   have hso:(⟨o.toArray⟩:ByteArray).size=n.toNat:=by
    show o.toArray.size=_;simp[l1]
   refine⟨?_,by simp only;rw[hso];omega⟩;simp only;rw[VO,ab (λh=>h hc),ab (by omega),hso,e1];simp only;rw[<-Dy l2 e2 he]
  ·rw[ab he]at e;rw[e]at h;simp at h
end Go.Proofs.YtbjbjbpgmojcbacGreatDoor.Cd
namespace Go.Proofs.YtbjbjbpgmojcbacGreatDoor
open Ar Bk Cd Dk Im Tk Tr Vy
open Tryz
variable{listed:Array Bool}{b:ByteArray}{x:Int}{a a1 fuel g gr i:Nat}{f:Nat->Int}{v:Value}{w:World}{S:World->Prop}
open Go.RowKit
theorem DA(hb:b.size<=140737488355328)(ha:a<=8*b.size)(h:Yt f b a=(x,a1))(w:World)(hB:bG w gr f (VM f) b a) :
 Calls prog 239 #[.pointer (some ⟨gr,0,none⟩)] w λe w'=>e=.returned (.int .i64 x)/\Only gr w w'/\bG w' gr f (VM f) b a1:=by
 have h9:=KB gr f (VM f) b a w hB hb ha;have h8:XF f (VM f) b 15 1 0 a=(x,a1):=h;rw[h8]at h9;exact h9
theorem yl(ha:a<=8*b.size)(h:Yt f b a=(x,a1)):a1<=8*b.size/\-1<=x/\x<16:=by
 have h1:=KF (f:=f) (ws:=VM f) (b:=b) 15 1 0 a ha;have h8:XF f (VM f) b 15 1 0 a=(x,a1):=h;rw[h8]at h1;refine⟨h1,?_⟩;by_cases hx:x=-1
 ·omega
 ·obtain⟨s,d,e,hs,_⟩:=uN (f:=f) (ws:=VM f) (b:=b) 15 1 0 a (nl _) (by show(XF f (VM f) b 15 1 0 a).1 ≠ -1;rw[h8];exact hx);have h7:=e.symm.trans h8;simp only[Prod.mk.injEq]at h7;omega
theorem bG.grown{w1:World}{ws:Nat->Int}{o:Obj}(h:bG w gr f ws b a)(hne:some gr≠v.ownBlock)(hg:(w.alloc o).grownBy w1 v.ownBlock):bG w1 gr f ws b a:=by
 have hblk:w1.heap[gr]?=w.heap[gr]?:=by
  rw[hg.block gr (by have:=h.1;simp;omega) hne];exact((bR w.heap.size w).alloc (nl _) o).block gr h.1
 have h2:=hblk.trans h.2;exact⟨(aG.1 h2).1,h2⟩
theorem DB:(prog.info? 253).map (·.size)=some 34:=by kernel_rfl
theorem pY(f ws:Nat->Int)(b:ByteArray)(a:Nat):(ia f ws b a).size=34:=by simp[ia,Zo]
theorem DC{P:Program}{ops:Array Oper}{o:Oper}{a:Act}{K:Act->World->Prop}{Q:Exit->Act->World->Prop}{E:Prop}(hg:o.guard=none)(h:Oper.wp P o a w K Q) :
 if Region.wanted o (yielded ops a.tmps)=true then Oper.wp P o a w K Q else E:=by
 have hw:Region.wanted o (yielded ops a.tmps)=true:=by simp[Region.wanted,hg]
 rw[ax hw];exact h
theorem DD{P:Program}{md:Region.Mode}{ops:Array Oper}{Q:Exit->Act->World->Prop}{o:Oper}{a:Act} 
 (hr:Region.ready md ops listed=[i]) (hr2:Region.ready md ops (listed.setIfInBounds i true)=[]) (ho:ops[i]?=some o) (hg:o.guard=none)
 (h:∀K:Act->World->Prop,(∀a w,S w->Q .normal a w->K a w)->Oper.wp P o a w K Q):wpAnyH P md ops Q S (fuel+1) listed a w :=
 wpAnyH_all hr (by simp) (λj hj=>by
  obtain rfl:j=i:=by simpa using hj
  exact wpOp_step ho (λK hK=>DC hg (h K (λa w hs hq=>hK a w ⟨hs,wpAnyH_done hr2 hq _⟩))))
theorem DE{P:Program}{md:Region.Mode}{ops:Array Oper}{Q:Exit->Act->World->Prop}{o:Oper}{a:Act} 
 (hr:Region.ready md ops listed=[i]) (hr2:Region.ready md ops (listed.setIfInBounds i true)=[]) (ho:ops[i]?=some o) (hg:o.guard=none) (hd:o.dst=none)
 (ty:TypeId) (x y:Operand) (hop:o.op=.store ty x y) (g:Nat) (cells:Array Value) (hx:a.eval x=.pointer (some ⟨g,0,none⟩)) (hy:a.eval y=.agg cells)
 (t:TypeId) (old:Array Value) (hgr:w.heap[g]?=some (.cells old t (0,0))) (hi:(P.info? ty).map (·.size)=some cells.size)
 (hold:old.size=cells.size) (h1:cells.all (·.oneCell')=true) (hS:S (w.setRow g cells)) (h:Q .normal (a.put none undef) (w.setRow g cells)):wpAnyH P md ops Q S (fuel+1) listed a w :=
 DD hr hr2 ho hg (λK hK=>wp_store_row ty x y hop g cells hx hy t old hgr hi hold h1 (hK _ _ hS (by rw[hd];exact h)))
theorem DF{P:Program}{ops:Array Oper}{op:Oper}{a:Act}(hw:Region.wanted op (yielded ops a.tmps)=true)(t:TypeId)(parts:Array (Nat×Operand))(ho:op.op=.build t parts)(cells:Array Value)
 (hb:P.built t (parts.map λ(i,x)=>(i,a.eval x)).toList=some cells):YieldsIf P ops S op (.agg cells) a :=
 .inl ⟨hw,λw _=>by
  unfold execOp
  simp only[ho,Sem.run_bind,run_build w t _ cells hb,Result.andThen_ok,Sem.run_pure]⟩
theorem DG(f ws:Nat->Int)(b:ByteArray)(a:Nat):(ia f ws b a).all (·.oneCell')=true:=by
 unfold ia;rw[Array.all_append,Array.all_append,bj,bj];simp[Value.oneCell']
def oH:Array Value:=ia (λ_=>0) (λ_=>0) ⟨#[]⟩ 0
theorem DH:oH=#[.int .i64 0,.int .i64 0,.int .i64 0,.int .i64 0,.int .i64 0,.int .i64 0,.int .i64 0,.int .i64 0,.int .i64 0,.int .i64 0,.int .i64 0,.int .i64 0,.int .i64 0,.int .i64 0,.int .i64 0,.int .i64 0,.int .i64 0,.int .i64 0,.int .i64 0,.int .i64 0,.int .i64 0,.int .i64 0,.int .i64 0,.int .i64 0,.int .i64 0,.int .i64 0,.int .i64 0,.int .i64 0,.int .i64 0,.int .i64 0,.int .i64 0,.int .i64 0,.string ⟨#[]⟩,.int .i64 0]:=by kernel_rfl
theorem bG.laid{C:Array Value}(h:w.heap[gr]?=some (.cells C 253 (0,0)))(f ws:Nat->Int)(b:ByteArray)(a:Nat):bG (w.setRow gr (ia f ws b a)) gr f ws b a:=by
 have hlt:=(aG.1 h).1;refine⟨by simpa[World.setRow]using hlt,?_⟩;show(w.heap.modify gr _)[gr]?=_;rw[Array.getElem?_modify,ax rfl,h];rfl
theorem Zip(h:ai w g f):w.rangeAt g 0 (arr f).toList:=by
 have:=World.rangeAt_of_block h.2 0 16
 rwa [show(arr f).extract 0 (0+16)=arr f by rw[Nat.zero_add,<-Zo f];exact Array.extract_size]at this
theorem K9(f:Nat->Int)(b:ByteArray)(n:Int)(w:World)(h0:Wj f=0)(hn0:0<=n)(hn1:n<=1024)(hb:b.size<=140737488355328) :
 CB 219 #[.agg (arr f),.string b,.int .i64 n] w (.tuple #[.string (VP f b n).1,.int .i64 (VP f b n).2]):=by
 have hck:=λw=>pO f w
 rw[h0]at hck;have hwd:=λw=>Cw f w
 have hin:=Zh f;have R1:=ai.new w f;have HB:ae w (w.alloc (.cells (arr f) 142)):=(bR _ _).alloc (nl _) _;have d1:=dF (by omega:¬(n<0));have d2:=dF (by omega:¬(1024<n))
 obtain⟨r1,r2,hr⟩:∃r1 r2,VP f b n=(r1,r2):=⟨_,_,rfl⟩
 rw[hr];have Hr:=Za hr;have H0:=Za h0;clear hr h0;go_enter func219,ntmps219
 go_wp2_with (refine wpList_load_row rfl 142 _ rfl w.heap.size rfl 142 (arr f) (0,0) _ R1.2 aF rfl hin ?_)
 refine mo (hck _) λw1 G1=>?_
 have S1:=R1.below G1;have B1:=ag HB G1;clear R1 HB G1 hck;go_wp2_with fail
 go_cut [9] (λp wx=>∃gr,p=.pointer (some ⟨gr,0,none⟩)/\bG wx gr f (VM f) b 0/\w.heap.size<=gr/\ae w wx)
 case first =>
  refine wp_region_held_drew (S:=λw'=>ai w' w.heap.size f) (by kernel_rfl) S1 (λhS=>?_);refine wK (i:=0) (fuel:=6) rfl (by kernel_rfl) (by kernel_rfl) (by kernel_rfl) (λ_ _ _ h=>h) (yieldsIf_load_mid (by rfl) 142 _ rfl w.heap.size 0 rfl (arr f).toList _ (λw' h'=>Zip h') aF rfl (by rw[Array.length_toList];exact hin)) hS ?_;refine wK (i:=1) (fuel:=5) rfl (by kernel_rfl) (by kernel_rfl) (by kernel_rfl) (λ_ _ _ h=>h) (yieldsIf_load_mid (by rfl) 142 _ rfl w.heap.size 0 rfl (arr f).toList _ (λw' h'=>Zip h') aF rfl (by rw[Array.length_toList];exact hin)) hS ?_;refine aE 3 4 (.string b) rfl (λw _=>by go_simp) hS ?_;refine wY (rs:=[2,5]) (fuel:=3) (by kernel_rfl) (by simp) ?_;refine rC rfl (λK hK=>?_) ?_
  ·go_simp
   refine mo (hwd _) λw2 G2=>?_
   have T2:=(show ai w1.drew w.heap.size f from S1).below G2;have B2:=ag (show ae w w1.drew from B1.drew) G2;refine hK.out _ _ T2 (λhS2=>?_);clear hK;refine wK (i:=4) (fuel:=2) (v:=.agg (ia f (VM f) b 0)) rfl (by kernel_rfl) (by kernel_rfl) (by kernel_rfl) (λ_ _ _ h=>h) (DF (by rfl) 253 _ rfl _ (by kernel_rfl)) hS2 ?_;refine aR 5 1 rfl λK hK=>?_
   go_simp
   have A1:(w2.alloc (.cells #[.int .i64 0,.int .i64 0,.int .i64 0,.int .i64 0,.int .i64 0,.int .i64 0,.int .i64 0,.int .i64 0,.int .i64 0,.int .i64 0,.int .i64 0,.int .i64 0,.int .i64 0,.int .i64 0,.int .i64 0,.int .i64 0,.int .i64 0,.int .i64 0,.int .i64 0,.int .i64 0,.int .i64 0,.int .i64 0,.int .i64 0,.int .i64 0,.int .i64 0,.int .i64 0,.int .i64 0,.int .i64 0,.int .i64 0,.int .i64 0,.int .i64 0,.int .i64 0,.string ⟨#[]⟩,.int .i64 0] 253)).heap[w2.heap.size]?=some (.cells oH 253):=by rw[DH];exact heap_alloc_last w2 _
   have T3:=T2.alloc (.cells #[.int .i64 0,.int .i64 0,.int .i64 0,.int .i64 0,.int .i64 0,.int .i64 0,.int .i64 0,.int .i64 0,.int .i64 0,.int .i64 0,.int .i64 0,.int .i64 0,.int .i64 0,.int .i64 0,.int .i64 0,.int .i64 0,.int .i64 0,.int .i64 0,.int .i64 0,.int .i64 0,.int .i64 0,.int .i64 0,.int .i64 0,.int .i64 0,.int .i64 0,.int .i64 0,.int .i64 0,.int .i64 0,.int .i64 0,.int .i64 0,.int .i64 0,.int .i64 0,.string ⟨#[]⟩,.int .i64 0] 253);have B3:=B2.alloc (nL T2.1) (.cells #[.int .i64 0,.int .i64 0,.int .i64 0,.int .i64 0,.int .i64 0,.int .i64 0,.int .i64 0,.int .i64 0,.int .i64 0,.int .i64 0,.int .i64 0,.int .i64 0,.int .i64 0,.int .i64 0,.int .i64 0,.int .i64 0,.int .i64 0,.int .i64 0,.int .i64 0,.int .i64 0,.int .i64 0,.int .i64 0,.int .i64 0,.int .i64 0,.int .i64 0,.int .i64 0,.int .i64 0,.int .i64 0,.int .i64 0,.int .i64 0,.int .i64 0,.int .i64 0,.string ⟨#[]⟩,.int .i64 0] 253);have hlt:=T2.1;generalize w2.alloc (.cells #[.int .i64 0,.int .i64 0,.int .i64 0,.int .i64 0,.int .i64 0,.int .i64 0,.int .i64 0,.int .i64 0,.int .i64 0,.int .i64 0,.int .i64 0,.int .i64 0,.int .i64 0,.int .i64 0,.int .i64 0,.int .i64 0,.int .i64 0,.int .i64 0,.int .i64 0,.int .i64 0,.int .i64 0,.int .i64 0,.int .i64 0,.int .i64 0,.int .i64 0,.int .i64 0,.int .i64 0,.int .i64 0,.int .i64 0,.int .i64 0,.int .i64 0,.int .i64 0,.string ⟨#[]⟩,.int .i64 0] 253)=w3 at*;generalize w2.heap.size=gr at*;clear T2 B2 G2;have hz0:oH.size=34:=pY _ _ _ _;generalize oH=z0 at*;refine hK.out _ _ T3 (λhS3=>?_);clear hK;refine DE (i:=6) (fuel:=0) (by kernel_rfl) (by kernel_rfl) rfl rfl rfl 253 (Operand.tmp 9) (Operand.tmp 28) rfl gr (ia f (VM f) b 0) rfl rfl 253 z0 A1 (by rw[pY];exact DB) (by rw[pY];exact hz0) (DG _ _ _ _) (T3.gm (by omega) _) ?_;go_wp2_with fail
   go_meet
   exact⟨gr,rfl,bG.laid A1 f (VM f) b 0,nL hlt,Zu B3 (nL hlt) _⟩
  refine rC rfl (λK hK=>?_) rN;go_simp
  have A1:((w1.alloc (.cells #[.int .i64 0,.int .i64 0,.int .i64 0,.int .i64 0,.int .i64 0,.int .i64 0,.int .i64 0,.int .i64 0,.int .i64 0,.int .i64 0,.int .i64 0,.int .i64 0,.int .i64 0,.int .i64 0,.int .i64 0,.int .i64 0,.int .i64 0,.int .i64 0,.int .i64 0,.int .i64 0,.int .i64 0,.int .i64 0,.int .i64 0,.int .i64 0,.int .i64 0,.int .i64 0,.int .i64 0,.int .i64 0,.int .i64 0,.int .i64 0,.int .i64 0,.int .i64 0,.string ⟨#[]⟩,.int .i64 0] 253)).drew).heap[w1.heap.size]?=some (.cells oH 253):=by rw[DH];exact heap_alloc_last w1 _
  have T3:ai ((w1.alloc (.cells #[.int .i64 0,.int .i64 0,.int .i64 0,.int .i64 0,.int .i64 0,.int .i64 0,.int .i64 0,.int .i64 0,.int .i64 0,.int .i64 0,.int .i64 0,.int .i64 0,.int .i64 0,.int .i64 0,.int .i64 0,.int .i64 0,.int .i64 0,.int .i64 0,.int .i64 0,.int .i64 0,.int .i64 0,.int .i64 0,.int .i64 0,.int .i64 0,.int .i64 0,.int .i64 0,.int .i64 0,.int .i64 0,.int .i64 0,.int .i64 0,.int .i64 0,.int .i64 0,.string ⟨#[]⟩,.int .i64 0] 253)).drew) w.heap.size f:=S1.alloc _;have B3:=(B1.alloc (nL S1.1) (.cells #[.int .i64 0,.int .i64 0,.int .i64 0,.int .i64 0,.int .i64 0,.int .i64 0,.int .i64 0,.int .i64 0,.int .i64 0,.int .i64 0,.int .i64 0,.int .i64 0,.int .i64 0,.int .i64 0,.int .i64 0,.int .i64 0,.int .i64 0,.int .i64 0,.int .i64 0,.int .i64 0,.int .i64 0,.int .i64 0,.int .i64 0,.int .i64 0,.int .i64 0,.int .i64 0,.int .i64 0,.int .i64 0,.int .i64 0,.int .i64 0,.int .i64 0,.int .i64 0,.string ⟨#[]⟩,.int .i64 0] 253)).drew;have hlt:=S1.1;generalize (w1.alloc (.cells #[.int .i64 0,.int .i64 0,.int .i64 0,.int .i64 0,.int .i64 0,.int .i64 0,.int .i64 0,.int .i64 0,.int .i64 0,.int .i64 0,.int .i64 0,.int .i64 0,.int .i64 0,.int .i64 0,.int .i64 0,.int .i64 0,.int .i64 0,.int .i64 0,.int .i64 0,.int .i64 0,.int .i64 0,.int .i64 0,.int .i64 0,.int .i64 0,.int .i64 0,.int .i64 0,.int .i64 0,.int .i64 0,.int .i64 0,.int .i64 0,.int .i64 0,.int .i64 0,.string ⟨#[]⟩,.int .i64 0] 253)).drew=w3 at*;generalize w1.heap.size=gr at*;have hz0:oH.size=34:=pY _ _ _ _;generalize oH=z0 at*;refine hK.out _ _ T3 (λhS3=>?_);clear hK;refine aR 2 2 rfl λK hK=>?_
  go_simp
  refine mo (hwd _) λw4 G4=>?_
  have A4:w4.heap[gr]?=some (.cells z0 253):=by rw[G4.block gr (Array.getElem?_eq_some_iff.1 A1).1];exact A1
  have T4:=T3.below G4;have B4:=ag B3 G4;refine hK.out _ _ T4 (λhS4=>?_);clear hK;refine wK (i:=4) (fuel:=1) (v:=.agg (ia f (VM f) b 0)) rfl (by kernel_rfl) (by kernel_rfl) (by kernel_rfl) (λ_ _ _ h=>h) (DF (by rfl) 253 _ rfl _ (by kernel_rfl)) hS4 ?_;refine DE (i:=6) (fuel:=0) (by kernel_rfl) (by kernel_rfl) rfl rfl rfl 253 (Operand.tmp 9) (Operand.tmp 28) rfl gr (ia f (VM f) b 0) rfl rfl 253 z0 A4 (by rw[pY];exact DB) (by rw[pY];exact hz0) (DG _ _ _ _) (T4.gm (by omega) _) ?_;go_wp2_with fail
  go_meet
  exact⟨gr,rfl,bG.laid A4 f (VM f) b 0,nL hlt,Zu B4 (nL hlt) _⟩
 case rest =>
  obtain⟨gr,rfl,hB,hgr,B2⟩:=hcut;clear S1 B1 hwd;obtain⟨i0,hi,hz0,hz1,hz2⟩:=info_parts oq;go_wp2_with fail
  go_loopw [10,30] (λv i wr=>∃(k:Nat) (o:List UInt8) (a:Nat),(k:Int)<=n/\i=.int .i64 k/\Hid (Cd.bZ f b k=some (o,a))/\a<=8*b.size/\o.length<=1024/\Hid (o.length=k)/\bG wr gr f (VM f) b a/\wr.ownsRow (gr+1) 5 1 v o.length (cz o)/\ae w wr) (λ_ i _=>n.toNat-(intOf i).toNat)
  case atStart=>exact⟨0,[],0,hn0,rfl,rfl,by omega,by simp,rfl,hB,World.ownsRow_nil _ _ _ _,B2⟩
  case round =>
   clear hB B2;obtain⟨k,o,a,hk,rfl,hK,ha,hol,La,hB,ho,B2⟩:=hrel;by_cases hlt:(k:Int)<n
   ·have hk1:decide ((k:Int)<n)=true:=by simpa using hlt
    obtain⟨x,a1,h1⟩:∃x a1,Yt f b a=(x,a1):=⟨_,_,rfl⟩
    obtain⟨y,a2,h2⟩:∃y a2,Yt f b a1=(y,a2):=⟨_,_,rfl⟩
    obtain⟨p1,p2,p3⟩:=yl ha h1;obtain⟨q1,q2,q3⟩:=yl p1 h2;have rS:=λw' h=>DA (gr:=gr) hb ha h1 w' h
    have HS2:=λw' h=>DA (gr:=gr) hb p1 h2 w' h
    have H1:=Za h1;have H2:=Za h2;clear h1 h2;go_wp2_with fail
    refine mo (rS _ hB) ?_;rintro w4 ⟨G4,Z4⟩;have O4:=G4.own ho;have B4:=B2.trans (G4.1.mono hgr);clear hB ho B2 G4 rS;go_wp2_with fail
    refine mo (HS2 _ Z4) ?_;rintro w5 ⟨G5,Z5⟩;have O5:=G5.own O4;have B5:=B4.trans (G5.1.mono hgr);clear Z4 O4 B4 G5 HS2;by_cases hx:x=-1\/y=-1
    ·have h9:VP f b n=(⟨#[]⟩,1):=Cd.iO H0.out (by omega) (Cd.ye (by omega) hK.out H1.out H2.out hx);have h8:=Hr.out.symm.trans h9;simp only[Prod.mk.injEq]at h8;obtain⟨rfl,rfl⟩:=h8;clear h9;by_cases hx1:x=-1
     ·subst hx1;clear hx;go_wp2_with fail
      go_ret2
      exact⟨rfl,B5⟩
     ·have hy1:y=-1:=by omega
      subst hy1;have dx:(x == -1)=false:=by simpa using hx1
      clear hx;go_wp2_with fail
      go_ret2
      exact⟨rfl,B5⟩
    ·have hx1:¬x=-1:=λh=>hx (.inl h)
     have hy1:¬y=-1:=λh=>hx (.inr h)
     have dx:(x == -1)=false:=by simpa using hx1
     have dy:(y == -1)=false:=by simpa using hy1
     have HN:=Za (yc hK.out H1.out H2.out hx);have hx0:0<=x:=by omega
     have hy0:0<=y:=by omega
     have hxy:0<=x*16+y/\x*16+y<256:=by omega
     have hm:(x*16+y)%256=x*16+y:=by omega
     have HB:=Za (qZ o _ hxy.1 hxy.2);have hle:gr+1<=(w5.alloc (.cells #[.int .u8 (x*16+y)] 5)).heap.size:=by have:=Z5.1;simp;omega
     have hkn:k+1<=n.toNat:=by omega
     have iM:Hid (((k+1:Nat):Int)<=n/\o.length+1<=1024/\o.length+1=k+1):=by have:=La.out;show _/\_/\_;omega
     clear hx hx1 hy1 H1 H2 hK p2 p3 q2 q3;go_wp2_with (at_builtin;go_must (refine wpList_append_own _ rfl _ _ 29 rfl (gr+1) 5 i0 (.int .u8 0) 1 1 gE hi hz0 hz1 hz2 rfl (by decide) _ _ _ rfl (O5.alloc _) ⟨w5.heap.size,0,none⟩ 1 1 [.int .u8 (x*16+y)] rfl rfl (cell_one_new _ _ _) (nz _) (fb (by omega)) (by omega) hle ?_;intro v' w6 hown' hgrow _))
     have hne:some gr≠Value.ownBlock u10:=λe=>by have:=(O5.lt gr e.symm).1;omega
     have Z6:bG w6 gr f (VM f) b a2:=by
      refine Z5.grown hne hgrow
     have B6:=(B5.alloc (nt hgr (nL Z5.1)) _).grown hgrow (by have:=Z5.1;simp;omega) (λj hj=>by have:=(O5.lt j hj).1;omega);refine⟨⟨k+1,o++[UInt8.ofNat (x*16+y).toNat],a2,iM.out.1,by go_num,HN,q1,by have:=iM.out.2.1;simp;omega,by show _=_;have:=iM.out.2.2;simp;omega,Z6,?_,B6⟩,by simp[intOf];omega⟩;rw[HB.out,List.length_append];exact hown'
   ·obtain hkn:(k:Int)=n:=by omega
    have hend:=KE gr f (VM f) b a wr hB hb ha;have h9:=Cd.kj (n:=n) (o:=o) (a:=a) H0.out (by omega) (by rw[<-hkn,Int.toNat_natCast];exact hK.out);have h8:=Hr.out.symm.trans h9;have hk1:decide ((k:Int)<n)=false:=by simpa using hlt
    clear h9;by_cases he:Cd.end_ b a=true
    ·rw[ax he]at h8;simp only[Prod.mk.injEq]at h8;obtain⟨rfl,rfl⟩:=h8;rw[he]at hend;clear hkn he;go_wp2_with fail
     refine mo hend λw4 G4=>?_
     have hcv:=pJ (l:=o) (Zz ho G4);have B4:=ag B2 G4;go_wp2_with fail
     go_ret2
     exact⟨rfl,B4⟩
    ·rw[ab he]at h8;simp only[Prod.mk.injEq]at h8;obtain⟨rfl,rfl⟩:=h8;have he':Cd.end_ b a=false:=by simpa using he
     rw[he']at hend;clear hkn he he';go_wp2_with fail
     refine mo hend λw4 G4=>?_
     have B4:=ag B2 G4;go_wp2_with fail
     go_ret2
     exact⟨rfl,B4⟩
theorem Lb(f:Nat->Int)(b:ByteArray)(n:Int)(w:World)(hb:b.size<=140737488355328) :
 CB 219 #[.agg (arr f),.string b,.int .i64 n] w (.tuple #[.string (VP f b n).1,.int .i64 (VP f b n).2]):=by
 by_cases h0:Wj f=0
 ·by_cases hn:n<0\/1024<n
  ·have h9:VP f b n=(⟨#[]⟩,3):=by rw[VP,ab (λh=>h h0),ax hn]
   rw[h9];have hck:=λw=>pO f w
   rw[h0]at hck;have hin:=Zh f;have R1:=ai.new w f;have HB:ae w (w.alloc (.cells (arr f) 142)):=(bR _ _).alloc (nl _) _;clear h9 h0;by_cases hn0:n<0
   ·have d1:decide (n<0)=true:=by simpa using hn0
    clear hn;go_enter func219,ntmps219
    go_wp2_with (refine wpList_load_row rfl 142 _ rfl w.heap.size rfl 142 (arr f) (0,0) _ R1.2 aF rfl hin ?_)
    refine mo (hck _) λw1 G1=>?_
    have B1:=ag HB G1;clear R1 HB G1 hck;go_wp2_with fail
    go_ret2
    exact⟨rfl,B1⟩
   ·have d1:decide (n<0)=false:=by simpa using hn0
    have hn1:1024<n:=by omega
    have d2:decide (1024<n)=true:=by simpa using hn1
    clear hn;go_enter func219,ntmps219
    go_wp2_with (refine wpList_load_row rfl 142 _ rfl w.heap.size rfl 142 (arr f) (0,0) _ R1.2 aF rfl hin ?_)
    refine mo (hck _) λw1 G1=>?_
    have B1:=ag HB G1;clear R1 HB G1 hck;go_wp2_with fail
    go_ret2
    exact⟨rfl,B1⟩
  ·exact K9 f b n w h0 (by omega) (by omega) hb
 ·have h9:VP f b n=(⟨#[]⟩,Wj f):=by rw[VP,ax h0]
  rw[h9];have hck:=λw=>pO f w
  have hin:=Zh f;have R1:=ai.new w f;have HB:ae w (w.alloc (.cells (arr f) 142)):=(bR _ _).alloc (nl _) _;generalize Wj f=E at*;have d0:(E != 0)=true:=by simpa using h0
  clear h9 h0;go_enter func219,ntmps219
  go_wp2_with (refine wpList_load_row rfl 142 _ rfl w.heap.size rfl 142 (arr f) (0,0) _ R1.2 aF rfl hin ?_)
  refine mo (hck _) λw1 G1=>?_
  have B1:=ag HB G1;clear R1 HB G1 hck;go_wp2_with fail
  go_ret2
  exact⟨rfl,B1⟩
namespace Bk
def bH(s:ByteArray):Nat->(Nat->Int)
 |0=>λ_=>0
 |k+1=>upd (upd (bH s k) (Cd.at8 s k/16) (bH s k (Cd.at8 s k/16)+1)) (Cd.at8 s k%16) (upd (bH s k) (Cd.at8 s k/16) (bH s k (Cd.at8 s k/16)+1) (Cd.at8 s k%16)+1)
def hv(s:ByteArray):Nat->Int:=bH s s.size
theorem oI(s:ByteArray):∀k i,0<=bH s k i/\bH s k i<=2*k:=by
 intro k
 induction k with
 |zero=>intro i;simp[bH]
 |succ k ih =>
  intro i;have h1:=ih i;have h2:=ih (Cd.at8 s k/16);have h3:=ih (Cd.at8 s k%16);rw[bH];unfold upd;split
  ·split<;>omega
  ·split<;>omega
theorem rV(s:ByteArray)(h:s.size<=1024):Wk (hv s) 2048 16:=λi _=>by
 have:=oI s s.size i;unfold hv;omega
end Bk
theorem Lc(s:ByteArray)(w:World)(hs:s.size<=1024) :
 CB 184 #[.string s] w (.agg (arr (Bk.hv s))):=by
 obtain⟨R2,R3⟩:=ai.two w (λ_=>0) (λ_=>0);have HB:=uv w (.cells (arr λ_=>0) 142) (.cells (arr λ_=>0) 142);rw[<-Zs]at R2 R3 HB;have hs':(s.size:Int)<=1024:=by omega
 obtain⟨r,hr⟩:∃r,Bk.hv s=r:=⟨_,rfl⟩
 rw[hr];have Hr:Hid (bH s s.size=r):=hr;clear hr;go_enter func184,ntmps184
 go_wp2_with fail
 rw[Zs]at R2 R3 HB;rw[Zs];generalize (w.alloc (.cells (arr λ_=>0) 142)).alloc (.cells (arr λ_=>0) 142)=w0 at*
 obtain⟨g1,hg1⟩:∃g1,g1=w.heap.size:=⟨_,rfl⟩
 have hq:Hid (g1<w.heap.size+1/\w.heap.size=g1):=by show _/\_;omega
 generalize w.heap.size+1=g3 at*;clear hg1;go_loopw [7] (λi wr=>∃k:Nat,k<=s.size/\i=.int .i64 k/\ai wr w.heap.size (λ_=>0)/\ai wr g3 (bH s k)/\ae w wr) (λi _=>s.size-(intOf i).toNat)
 case atStart=>exact⟨0,by omega,rfl,R2,R3,HB⟩
 case round =>
  clear R2 R3 HB;obtain⟨k,hk,rfl,R2,R3,HB⟩:=hrel;by_cases hlt:k<s.size
  ·have hk1:=al (by omega:(k:Int)<(s.size:Int));have hk2:=al (by omega:k<s.size);have hk3:(k:Int)<(s.size:Int):=by omega
   obtain⟨x,hx⟩:∃x:Int,(s[k].toNat:Int)=x:=⟨_,rfl⟩
   have hA:Cd.at8 s k=s[k].toNat:=by unfold Cd.at8;rw[ZX s k hlt];rfl
   have hA2:=Xf s k;have hx0:0<=x:=by omega
   have hx1:x<=255:=by omega
   obtain⟨H,hH⟩:∃H,Cd.at8 s k/16=H:=⟨_,rfl⟩
   obtain⟨L,hL⟩:∃L,Cd.at8 s k%16=L:=⟨_,rfl⟩
   have e1:x/16=(H:Int):=by omega
   have e2:x%16=(L:Int):=by omega
   have e3:x.tdiv 16=(H:Int):=by rw[Int.tdiv_eq_ediv_of_nonneg hx0];exact e1
   have e4:x.tmod 16=(L:Int):=by rw[Int.tmod_eq_emod_of_nonneg hx0];exact e2
   have hH1:H<16:=by omega
   have hL1:L<16:=by omega
   have hH2:(H:Int)<16:=by omega
   have hL2:(L:Int)<16:=by omega
   have HN:Hid (bH s (k+1)=upd (upd (bH s k) H (bH s k H+1)) L (upd (bH s k) H (bH s k H+1) L+1)):=by show _=_;rw[bH,hH,hL]
   have hb1:=oI s k H
   have hb2:0<=upd (bH s k) H (bH s k H+1) L/\upd (bH s k) H (bH s k H+1) L<=4096:=by
    have:=oI s k L;unfold upd;split<;>omega
   have hb3:bH s k H<=4096:=by omega
   have hb4:=hb1.1;clear hA hA2 hH hL e1 e2 hb1;have c1:=R3.cell H hH1;have f1:=R3.frozen H;have S3:=R3.set H (bH s k H+1);have S2:=R2.aq (q:=g3) (by have:=hq.out;omega) H (.int .i64 (bH s k H+1));have SB:=HB.setCell (p:=⟨g3,H,none⟩) (by have:=hq.out;show _<=g3;omega) (.int .i64 (bH s k H+1));have c2:=S3.cell L hL1;have f2:=S3.frozen L;have T3:=S3.set L (upd (bH s k) H (bH s k H+1) L+1);have T2:=S2.aq (q:=g3) (by have:=hq.out;omega) L (.int .i64 (upd (bH s k) H (bH s k H+1) L+1));have TB:=SB.setCell (p:=⟨g3,L,none⟩) (by have:=hq.out;show _<=g3;omega) (.int .i64 (upd (bH s k) H (bH s k H+1) L+1));rw[<-HN.out]at T3;generalize upd (bH s k) H (bH s k H+1) L=y2 at*;generalize bH s k H=y1 at*;clear R2 R3 HB S2 S3 SB HN;go_wp2_with fail
   go_roundw
   case rel=>exact⟨k+1,by omega,by go_num,T2,T3,TB⟩
   case measure=>simp[intOf];omega
  ·obtain rfl:k=s.size:=by omega
   rw[Hr.out]at R3;have hi1:=Zh r;have hk1:decide ((s.size:Int)<(s.size:Int))=false:=by simp
   have hk2:decide (s.size<s.size)=false:=by simp
   go_wp2_with (first|refine wpList_load_row rfl 142 _ rfl g3 rfl 142 (arr r) (0,0) _ R3.2 aF rfl hi1 ?_|refine wpList_store_row rfl 142 _ _ rfl w.heap.size (arr r) rfl rfl 142 _ R2.2 hi1 (by rw[Zo,Zo]) (bj _) ?_)
   have U2:=R2.setRow r;exact bodyPost_ret (v:=.agg (arr r)) (results_cell_row results184 _ _ w.heap.size 142 _ (0,0) _ rfl U2.2 aF rfl hi1) rfl ⟨rfl,Zu HB (nl _) _⟩
theorem Ld(s:ByteArray)(w:World)(hs:s.size<=1024) :
 CB 206 #[.string s] w (.agg (arr (Bk.hv s))):=by
 obtain⟨R2,R3⟩:=ai.two w (λ_=>0) (λ_=>0);have HB:=uv w (.cells (arr λ_=>0) 142) (.cells (arr λ_=>0) 142);rw[<-Zs]at R2 R3 HB;have hs':(s.size:Int)<=1024:=by omega
 obtain⟨r,hr⟩:∃r,Bk.hv s=r:=⟨_,rfl⟩
 rw[hr];have Hr:Hid (bH s s.size=r):=hr;clear hr;go_enter func206,ntmps206
 go_wp2_with fail
 rw[Zs]at R2 R3 HB;rw[Zs];generalize (w.alloc (.cells (arr λ_=>0) 142)).alloc (.cells (arr λ_=>0) 142)=w0 at*
 obtain⟨g1,hg1⟩:∃g1,g1=w.heap.size:=⟨_,rfl⟩
 have hq:Hid (g1<w.heap.size+1/\w.heap.size=g1):=by show _/\_;omega
 generalize w.heap.size+1=g3 at*;clear hg1;go_loopw [4] (λi wr=>∃k:Nat,k<=s.size/\i=.int .i64 k/\ai wr w.heap.size (λ_=>0)/\ai wr g3 (bH s k)/\ae w wr) (λi _=>s.size-(intOf i).toNat)
 case atStart=>exact⟨0,by omega,rfl,R2,R3,HB⟩
 case round =>
  clear R2 R3 HB;obtain⟨k,hk,rfl,R2,R3,HB⟩:=hrel;by_cases hlt:k<s.size
  ·have hk1:=al (by omega:(k:Int)<(s.size:Int));have hk2:=al (by omega:k<s.size);have hk3:(k:Int)<(s.size:Int):=by omega
   obtain⟨x,hx⟩:∃x:Int,(s[k].toNat:Int)=x:=⟨_,rfl⟩
   have hA:Cd.at8 s k=s[k].toNat:=by unfold Cd.at8;rw[ZX s k hlt];rfl
   have hA2:=Xf s k;have hx0:0<=x:=by omega
   have hx1:x<=255:=by omega
   obtain⟨H,hH⟩:∃H,Cd.at8 s k/16=H:=⟨_,rfl⟩
   obtain⟨L,hL⟩:∃L,Cd.at8 s k%16=L:=⟨_,rfl⟩
   have e1:x/16=(H:Int):=by omega
   have e2:x%16=(L:Int):=by omega
   have e3:x.tdiv 16=(H:Int):=by rw[Int.tdiv_eq_ediv_of_nonneg hx0];exact e1
   have e4:x.tmod 16=(L:Int):=by rw[Int.tmod_eq_emod_of_nonneg hx0];exact e2
   have hH1:H<16:=by omega
   have hL1:L<16:=by omega
   have hH2:(H:Int)<16:=by omega
   have hL2:(L:Int)<16:=by omega
   have HN:Hid (bH s (k+1)=upd (upd (bH s k) H (bH s k H+1)) L (upd (bH s k) H (bH s k H+1) L+1)):=by show _=_;rw[bH,hH,hL]
   have hb1:=oI s k H
   have hb2:0<=upd (bH s k) H (bH s k H+1) L/\upd (bH s k) H (bH s k H+1) L<=4096:=by
    have:=oI s k L;unfold upd;split<;>omega
   have hb3:bH s k H<=4096:=by omega
   have hb4:=hb1.1;clear hA hA2 hH hL e1 e2 hb1;have c1:=R3.cell H hH1;have f1:=R3.frozen H;have S3:=R3.set H (bH s k H+1);have S2:=R2.aq (q:=g3) (by have:=hq.out;omega) H (.int .i64 (bH s k H+1));have SB:=HB.setCell (p:=⟨g3,H,none⟩) (by have:=hq.out;show _<=g3;omega) (.int .i64 (bH s k H+1));have c2:=S3.cell L hL1;have f2:=S3.frozen L;have T3:=S3.set L (upd (bH s k) H (bH s k H+1) L+1);have T2:=S2.aq (q:=g3) (by have:=hq.out;omega) L (.int .i64 (upd (bH s k) H (bH s k H+1) L+1));have TB:=SB.setCell (p:=⟨g3,L,none⟩) (by have:=hq.out;show _<=g3;omega) (.int .i64 (upd (bH s k) H (bH s k H+1) L+1));rw[<-HN.out]at T3;generalize upd (bH s k) H (bH s k H+1) L=y2 at*;generalize bH s k H=y1 at*;clear R2 R3 HB S2 S3 SB HN;go_wp2_with fail
   go_roundw
   case rel=>exact⟨k+1,by omega,by go_num,T2,T3,TB⟩
   case measure=>simp[intOf];omega
  ·obtain rfl:k=s.size:=by omega
   rw[Hr.out]at R3;have hi1:=Zh r;have hk1:decide ((s.size:Int)<(s.size:Int))=false:=by simp
   have hk2:decide (s.size<s.size)=false:=by simp
   go_wp2_with (first|refine wpList_load_row rfl 142 _ rfl g3 rfl 142 (arr r) (0,0) _ R3.2 aF rfl hi1 ?_|refine wpList_store_row rfl 142 _ _ rfl w.heap.size (arr r) rfl rfl 142 _ R2.2 hi1 (by rw[Zo,Zo]) (bj _) ?_)
   have U2:=R2.setRow r;exact bodyPost_ret (v:=.agg (arr r)) (results_cell_row results206 _ _ w.heap.size 142 _ (0,0) _ rfl U2.2 aF rfl hi1) rfl ⟨rfl,Zu HB (nl _) _⟩
structure Tr where
 h:Nat->Bool
 w:Int
def aN(t:Tr):Array Value:=((List.range 16).map λi=>Value.bool (t.h i)).toArray++#[.int .i64 t.w]
theorem km(t:Tr):(aN t).size=17:=by simp[aN]
theorem ym(t:Tr)(i:Nat)(hi:i<16):(aN t)[i]?=some (.bool (t.h i)):=by
 rw[aN,Array.getElem?_append_left (by simp;exact hi)];simp[hi]
theorem yn(t:Tr):(aN t)[16]?=some (.int .i64 t.w):=by
 rw[aN,Array.getElem?_append_right (by simp)];simp
theorem Le:(prog.info? 239).map (·.size)=some 17:=by kernel_rfl
theorem kn(t:Tr):(prog.info? 239).map (·.size)=some (aN t).size:=by rw[km];exact Le
theorem pZ(t:Tr):(aN t).all (·.oneCell')=true:=by
 unfold aN;rw[Array.all_append]
 have:((List.range 16).map λi=>Value.bool (t.h i)).toArray.all (·.oneCell')=true:=by
  rw[Array.all_eq_true_iff_forall_mem];intro v hv;simp at hv;obtain⟨i,_,rfl⟩:=hv;rfl
 rw[this];simp[Value.oneCell']
theorem DI{s t:Tr}(h:∀i,i<16->s.h i=t.h i)(hw:s.w=t.w):aN s=aN t:=by
 unfold aN;rw[hw]
 congr 2
 apply List.map_congr_left;intro i hi;rw[h i (List.mem_range.1 hi)]
def aP(w:World)(g:Nat)(t:Tr):Prop:=g<w.heap.size/\w.heap[g]?=some (.cells (aN t) 239 (0,0))
theorem aP.new(w:World)(t:Tr):aP (w.alloc (.cells (aN t) 239)) w.heap.size t:=⟨by simp,heap_alloc_last w _⟩
theorem aP.below{w':World}{t:Tr}(H:aP w g t)(hb:ae w w'):aP w' g t:=⟨Nat.lt_of_lt_of_le H.1 hb.size,by rw[hb.block g H.1];exact H.2⟩
theorem aP.alloc{t:Tr}(H:aP w g t)(o:Obj):aP (w.alloc o) g t:=H.below ((Below.refl _ _).alloc (Nat.le_refl _) o)
theorem aP.cE{t:Tr}(H:aP w g t)(k:Nat)(hk:k<16):w.cell? ⟨g,k,none⟩=some (.bool (t.h k)):=by rw[cell_of_row w g k _ _ _ H.2,ym t k hk]
theorem aP.jl{t:Tr}(H:aP w g t):w.cell? ⟨g,16,none⟩=some (.int .i64 t.w):=by rw[cell_of_row w g 16 _ _ _ H.2,yn t]
theorem aP.frozen{t:Tr}(H:aP w g t)(k:Nat):w.frozen? ⟨g,k,none⟩=false:=by simp[World.frozen?,H.2]
theorem aP.range{t:Tr}(h:aP w g t):w.rangeAt g 0 (aN t).toList:=by
 have:=World.rangeAt_of_block h.2 0 17
 rwa [show(aN t).extract 0 (0+17)=aN t by rw[Nat.zero_add,<-km t];exact Array.extract_size]at this
namespace Cd
def Yu(h:Nat->Bool):Nat->Nat->Nat
 |0,k=>k
 |m+1,k=>if h k=true then k else Yu h m (k+1)
def ls(h:Nat->Bool):Nat:=Yu h 16 0
def jm(s t:Tr):Bool:=if s.w=t.w then decide (ls s.h<ls t.h) else decide (s.w<t.w)
end Cd
theorem yo(t:Tr)(w:World) :
 CB 233 #[.agg (aN t)] w (.int .i64 (Cd.ls t.h:Nat)):=by
 have R1:=aP.new w t;have B1:ae w (w.alloc (.cells (aN t) 239)):=(bR _ _).alloc (nl _) _
 obtain⟨r,hr⟩:∃r,Cd.ls t.h=r:=⟨_,rfl⟩
 rw[hr];have Hr:Hid (Yu t.h 16 0=r):=hr;clear hr;go_enter func233,ntmps233
 go_wp2_with fail
 generalize w.alloc (.cells (aN t) 239)=w0 at*;go_loop [3] (λi=>∃(k m:Nat),i=.int .i64 k/\Hid (k+m=16)/\k<=16/\Hid (Yu t.h m k=r)) (λi=>16-(intOf i).toNat)
 case atStart=>exact⟨0,16,rfl,rfl,by omega,Hr⟩
 case round =>
  obtain⟨k,m,rfl,Hm,hk,HF⟩:=hrel;by_cases hlt:k<16
  ·have hk1:=al (by omega:(k:Int)<16);have hk2:=al (by omega:k<16);have hk3:(k:Int)<16:=by omega
   obtain⟨m,rfl⟩:∃j,m=j+1:=⟨m-1,by have:=Hm.out;omega⟩
   have c1:=R1.cE k hlt
   cases hb:t.h k with
   |true =>
    have h9:=HF.out;rw[Yu,ax hb]at h9;subst h9;rw[hb]at c1;clear hb;go_wp2_with fail
    go_ret
    exact⟨rfl,B1⟩
   |false =>
    have h9:=HF.out;rw[Yu,ab (by simp[hb])]at h9;have H9:=Za h9;rw[hb]at c1;clear hb h9;go_wp2_with fail
    exact⟨⟨k+1,m,by go_num,by have:=Hm.out;show _=_;omega,by omega,H9⟩,by simp[intOf];omega⟩
  ·obtain rfl:k=16:=by omega
   obtain rfl:m=0:=by have:=Hm.out;omega
   have h9:=HF.out;rw[Yu]at h9;subst h9;go_wp2_with fail
   go_ret
   exact⟨rfl,B1⟩
theorem DJ{P:Program}{md:Region.Mode}{ops:Array Oper}{Q:Exit->Act->World->Prop}{o:Oper}{a:Act} 
 (hr:Region.ready md ops listed=[i]) (hr2:Region.ready md ops (listed.setIfInBounds i true)=[]) (ho:ops[i]?=some o) (hy:YieldsIf P ops S o v a) (hS:S w) (h:Q .normal (a.put o.dst v) w):wpAnyH P md ops Q S (fuel+1) listed a w :=
 wpAnyH_all hr (by simp) (λj hj=>by
  obtain rfl:j=i:=by simpa using hj
  exact hy.wpOp ho hS ⟨hS,wpAnyH_done hr2 h _⟩)
theorem Lf(w:World)(s t:Tr):aP ((w.alloc (.cells (aN s) 239)).alloc (.cells (aN t) 239)) w.heap.size s/\aP ((w.alloc (.cells (aN s) 239)).alloc (.cells (aN t) 239)) (w.heap.size+1) t/\ae w ((w.alloc (.cells (aN s) 239)).alloc (.cells (aN t) 239)) :=
 ⟨(aP.new w s).alloc _,by have:=aP.new (w.alloc (.cells (aN s) 239)) t;simpa using this,((bR _ _).alloc (nl _) _).alloc (by simp) _⟩
theorem Lg(s t:Tr)(w:World) :
 CB 247 #[.agg (aN s),.agg (aN t)] w (.bool (jm s t)):=by
 obtain⟨R1,R2,B1⟩:=Lf w s t;have c1:=R1.jl;have c2:=R2.jl;by_cases hw:s.w=t.w
 ·have h9:jm s t=decide (Cd.ls s.h<Cd.ls t.h):=by rw[jm,ax hw]
  rw[h9];have d1:(s.w != t.w)=false:=by simpa using hw
  have hl1:=λw=>yo s w
  have hl2:=λw=>yo t w
  have hi1:=kn s;have hi2:=kn t;generalize Cd.ls s.h=x at*;generalize Cd.ls t.h=y at*;generalize s.w=ws at*;generalize t.w=wt at*;clear h9 hw;go_enter func247,ntmps247
  go_wp2_with fail
  generalize (w.alloc (.cells (aN s) 239)).alloc (.cells (aN t) 239)=w0 at*;refine wp_region_held_drew (S:=λw'=>aP w' w.heap.size s/\aP w' (w.heap.size+1) t) (by kernel_rfl) ⟨R1,R2⟩ (λhS=>?_);refine wK (i:=0) (fuel:=5) rfl (by kernel_rfl) (by kernel_rfl) (by kernel_rfl) (λ_ _ _ h=>h) (yieldsIf_load_mid (by rfl) 239 _ rfl w.heap.size 0 rfl (aN s).toList _ (λw' h'=>h'.1.range) ig rfl (by rw[Array.length_toList];exact hi1)) hS ?_;refine wK (i:=2) (fuel:=4) rfl (by kernel_rfl) (by kernel_rfl) (by kernel_rfl) (λ_ _ _ h=>h) (yieldsIf_load_mid (by rfl) 239 _ rfl (w.heap.size+1) 0 rfl (aN t).toList _ (λw' h'=>h'.2.range) ig rfl (by rw[Array.length_toList];exact hi2)) hS ?_;refine aR 1 3 rfl λK hK=>?_
  go_simp
  refine mo (hl1 _) λw1 G1=>?_
  have S1:=(show aP w0.drew w.heap.size s from R1).below G1;have S2:=(show aP w0.drew (w.heap.size+1) t from R2).below G1;have B2:=ag (show ae w w0.drew from B1.drew) G1;clear c1 c2 R1 R2 B1 G1 hl1;refine hK.out _ _ ⟨S1,S2⟩ (λhS2=>?_);clear hK;refine aR 3 2 rfl λK hK=>?_
  go_simp
  refine mo (hl2 _) λw2 G2=>?_
  have B3:=ag B2 G2;refine hK.out _ _ ⟨S1.below G2,S2.below G2⟩ (λhS3=>?_);clear hK G2;refine aE 4 1 (.bool (decide (x<y))) rfl (λw _=>by go_simp) hS3 ?_;refine DJ (i:=5) (fuel:=0) (v:=.bool (decide (x<y))) (by kernel_rfl) (by kernel_rfl) rfl (Or.inl ⟨by rfl,λw _=>by go_simp⟩) hS3 ?_;go_wp2_with fail
  go_ret
  exact⟨rfl,B3⟩
 ·have h9:jm s t=decide (s.w<t.w):=by rw[jm,ab hw]
  rw[h9];have d1:(s.w != t.w)=true:=by simpa using hw
  generalize s.w=ws at*;generalize t.w=wt at*;clear h9 hw;go_enter func247,ntmps247
  go_wp2_with fail
  go_ret
  exact⟨rfl,B1⟩
namespace Cd
def chr(b:Bool):UInt8:=if b then 49 else 48
def VD(bs:List Bool):ByteArray:=⟨(bs.map chr).toArray⟩
theorem jM(bs:List Bool):(VD bs).size=bs.length:=by
 show(bs.map chr).toArray.size=_;simp
theorem rX(a b:List Bool):VD a++VD b=VD (a++b):=by
 unfold VD;rw[List.map_append];exact XR _ _
theorem Lh(word:Int):∀k,WN word (k+1)=WN (word/2) k++[decide (word%2=1)]:=by
 intro k
 induction k generalizing word with
 |zero=>simp[WN]
 |succ k ih =>
  rw[WN,ih,WN,List.cons_append,Int.ediv_ediv_of_nonneg (by omega),Int.pow_succ,Int.mul_comm 2 (2^k)]
theorem Li(n:Int):UInt8.ofNat (48+n%2).toNat=chr (decide (n%2=1)):=by
 have h:n%2=0\/n%2=1:=by omega
 rcases h with h|h<;>rw[h]<;>rfl
end Cd
theorem DK(k:Nat):∀(n:Int) (w:World),0<=n->n<=1048576->k<=15 →
 CB 163 #[.int .i64 n,.int .i64 (k:Int)] w (.string (VD (WN n k))):=by
 induction k with
 |zero =>
  intro n w h0 hn _;go_enter func163,ntmps163
  go_wp2_with fail
  go_ret
  exact⟨rfl,bR _ _⟩
 |succ k ih =>
  intro n w h0 hn hk;have hcv:=nA (48+n%2) (by omega) (by omega);have IH:=Za ih;clear ih;have hl:(VD (WN (n/2) k)).size<=15:=by rw[jM,nG];omega
  have HN:Hid (VD (WN n (k+1))=VD (WN (n/2) k)++⟨#[UInt8.ofNat (48+n%2).toNat]⟩):=by
   show _=_;rw[Lh,<-rX,Cd.Li];rfl
  obtain⟨K,hK⟩:∃K:Int,((k+1:Nat):Int)=K:=⟨_,rfl⟩
  rw[hK];have hK0:(K==0)=false:=by simp;omega
  have hK1:K-1=(k:Int):=by omega
  have hr1:IntKind.i64.wrap (48+n%2)=48+n%2:=IntWalk.i64_in _ ⟨by omega,by omega⟩;have hr3:n.tmod 2=n%2:=Int.tmod_eq_emod_of_nonneg h0;have hr4:n.tdiv 2=n/2:=Int.tdiv_eq_ediv_of_nonneg h0;have BU:IntKind.i64.wrap (n/2)=n/2:=IntWalk.i64_in _ ⟨by omega,by omega⟩;have UM:IntKind.i64.wrap (k:Int)=(k:Int):=IntWalk.i64_in _ ⟨by omega,by omega⟩;have hr2:IntKind.u8.wrap (48+n%2)=48+n%2:=IntWalk.u8_in _ ⟨by omega,by omega⟩;clear hK;go_enter func163,ntmps163
  go_wp2_with fail
  go_region_with (go_at_call 163;refine(IH.out _ _ (by omega) (by omega) (by omega)).mono ?_;rintro e w1 ⟨rfl,hB⟩;have hk1:=BS hB)
  all_goals go_wp2
  all_goals go_ret
  all_goals refine⟨?_,?_⟩
  all_goals first|exact congrArg (λs=>Ending.returned (Value.string s)) HN.out.symm|skip
  all_goals first|exact l8 ((bR _ _).alloc (nl _) _).drew hB (nl _)|exact l8 (bR _ _).drew hB (nl _)|exact(l8 (bR _ _).drew hB (nl _)).alloc hB.size _|skip
end Go.Proofs.YtbjbjbpgmojcbacGreatDoor
