/- A part of the proof: what it leans on. -/
import Derived.Test.YtbjbjbpgmojcbacGreatDoorDk08
set_option maxRecDepth 4000
set_option maxHeartbeats 2000000
namespace Go.Proofs.YtbjbjbpgmojcbacGreatDoor
open Ar Bk Cd Dk Im Tk Tr Vy
open Tryz
variable{a:Ar.A}{b dict name q s text:ByteArray}{n:Int}{fs:List Ar.F}{xs:List ByteArray}{L x:List UInt8}{i k:Nat}{f g ws:Nat->Int}
open Go.RowKit
namespace Ar
theorem Yf(h:VX b k=false):∀j,VX b (k+j)=false:=by
 intro j
 induction j with
 |zero=>exact h
 |succ j ih=>rw[<-Nat.add_assoc,VX,ih,Bool.false_and]
end Ar
theorem kR(s:ByteArray)(k:Nat)(h:k<s.size):Cd.at8 s k=s[k].toNat:=by
 unfold Cd.at8;rw[ZX s k h];rfl
theorem lL(h:0<b.size):b.toList.isEmpty=false:=by
 rw[ByteArray.toList_eq,List.isEmpty_eq_false_iff];intro e;have:=congrArg List.length e;simp at this;rw[this]at h;exact absurd h (by decide)
theorem zg(h:b.size=0):b=⟨#[]⟩:=by
 cases b with|mk d=>congr;exact Array.eq_empty_of_size_eq_zero h
theorem ZQ(n lo hi:Int)(w:World) :
 Calls prog 79 #[.int .i64 n,.int .i64 lo,.int .i64 hi] w λe w'=>e=.returned (.bool (decide (lo<=n/\n<=hi)))/\w'=w:=by
 by_cases h1:lo<=n
 ·have d1:=al h1;by_cases h2:n<=hi
  ·have d2:=al h2;rw[decide_eq_true ⟨h1,h2⟩];go_enter func79,ntmps79
   go_wp2_with fail
   go_ret
   exact⟨rfl,rfl⟩
  ·have d2:=dF h2;rw[decide_eq_false (λh=>h2 h.2)];go_enter func79,ntmps79
   go_wp2_with fail
   go_ret
   exact⟨rfl,rfl⟩
 ·have d1:=dF h1;rw[decide_eq_false (λh=>h1 h.1)];go_enter func79,ntmps79
  go_wp2_with fail
  go_ret
  exact⟨rfl,rfl⟩
theorem Ni(s:ByteArray)(w:World)(h0:0<s.size)(h1:s.size<=12) :
 Calls prog 62 #[.string s] w λe w'=>e=.returned (.bool (VX s s.size))/\w'=w:=by
 have hne:=lL h0;have hne2:(s.toList == [])=false:=by rw[<-hne];cases s.toList<;>rfl
 have h1':(s.size:Int)<=12:=by omega
 have h0':(1:Int)<=(s.size:Int):=by omega
 obtain⟨r,hr⟩:∃r,VX s s.size=r:=⟨_,rfl⟩
 rw[hr];have Hr:=Za hr;clear hr;go_enter func62,ntmps62
 go_wp2_with fail
 go_loopw [14] (λi wr=>∃k:Nat,k<=s.size/\i=.int .i64 k/\Hid (VX s k=true)/\wr=w) (λi _=>s.size-(intOf i).toNat)
 case atStart=>exact⟨0,by omega,rfl,rfl,rfl⟩
 case round =>
  obtain⟨k,hk2,rfl,HL,rfl⟩:=hrel;by_cases hlt:k<s.size
  ·have d1:=al (by omega:(k:Int)<(s.size:Int));have d1':=al (by omega:k<s.size);have hki:(k:Int)<(s.size:Int):=by omega
   have dG:=kR s k hlt
   obtain⟨y,hc⟩:∃y,s[k].toNat=y:=⟨_,rfl⟩
   rw[hc]at dG;have HY:=Za dG;clear dG;have vk:y<256:=by rw[<-hc];exact s[k].toNat_lt
   by_cases k1:97<=y
   ·by_cases k2:y<=122
    ·have f0:decide ((y:Int)<97)=false:=dF (by omega);have g0:¬((y:Int)<97):=by omega
     have f1:decide ((122:Int)<(y:Int))=false:=dF (by omega);have g1:¬((122:Int)<(y:Int)):=by omega
     have HN:Hid (VX s (k+1)=true):=by show _=_;rw[VX,HL.out,HY.out];simp[jP];omega
     clear Hr HY;go_wp2_with fail
     go_roundw
     case rel=>exact⟨k+1,by omega,by go_num,HN,by trivial⟩
     case measure=>simp[intOf];omega
    ·have f0:decide ((y:Int)<97)=false:=dF (by omega);have g0:¬((y:Int)<97):=by omega
     have f1:decide ((122:Int)<(y:Int))=true:=al (by omega);have g1:(122:Int)<(y:Int):=by omega
     have f2:decide ((y:Int)<48)=false:=dF (by omega);have g2:¬((y:Int)<48):=by omega
     have f3:decide ((57:Int)<(y:Int))=true:=al (by omega);have g3:(57:Int)<(y:Int):=by omega
     have f5:((y:Int)==46)=false:=by simp;omega
     have f6:((y:Int) != 46)=true:=by simp;omega
     have f7:decide ((y:Int)=46)=false:=dF (by omega)
     have HR:Hid (false=r):=by
      have hb:VX s (k+1)=false:=by rw[VX,HL.out,HY.out];simp[jP];omega
      have h9:=Yf hb (s.size-(k+1));rw[show k+1+(s.size-(k+1))=s.size by omega]at h9;exact h9.symm.trans Hr.out
     clear Hr HY;go_wp2_with fail
     go_ret
     exact⟨congrArg (λx=>Ending.returned (Value.bool x)) HR.out,rfl⟩
   ·by_cases k3:48<=y
    ·by_cases k4:y<=57
     ·have f0:decide ((y:Int)<97)=true:=al (by omega);have g0:(y:Int)<97:=by omega
      have f1:decide ((122:Int)<(y:Int))=false:=dF (by omega);have g1:¬((122:Int)<(y:Int)):=by omega
      have f2:decide ((y:Int)<48)=false:=dF (by omega);have g2:¬((y:Int)<48):=by omega
      have f3:decide ((57:Int)<(y:Int))=false:=dF (by omega);have g3:¬((57:Int)<(y:Int)):=by omega
      have f5:((y:Int)==46)=false:=by simp;omega
      have f6:((y:Int) != 46)=true:=by simp;omega
      have f7:decide ((y:Int)=46)=false:=dF (by omega);have HN:Hid (VX s (k+1)=true):=by show _=_;rw[VX,HL.out,HY.out];simp[jP];omega
      clear Hr HY;go_wp2_with fail
      go_roundw
      case rel=>exact⟨k+1,by omega,by go_num,HN,by trivial⟩
      case measure=>simp[intOf];omega
     ·have f0:decide ((y:Int)<97)=true:=al (by omega);have g0:(y:Int)<97:=by omega
      have f1:decide ((122:Int)<(y:Int))=false:=dF (by omega);have g1:¬((122:Int)<(y:Int)):=by omega
      have f2:decide ((y:Int)<48)=false:=dF (by omega);have g2:¬((y:Int)<48):=by omega
      have f3:decide ((57:Int)<(y:Int))=true:=al (by omega);have g3:(57:Int)<(y:Int):=by omega
      have f5:((y:Int)==46)=false:=by simp;omega
      have f6:((y:Int) != 46)=true:=by simp;omega
      have f7:decide ((y:Int)=46)=false:=dF (by omega)
      have HR:Hid (false=r):=by
       have hb:VX s (k+1)=false:=by rw[VX,HL.out,HY.out];simp[jP];omega
       have h9:=Yf hb (s.size-(k+1));rw[show k+1+(s.size-(k+1))=s.size by omega]at h9;exact h9.symm.trans Hr.out
      clear Hr HY;go_wp2_with fail
      go_ret
      exact⟨congrArg (λx=>Ending.returned (Value.bool x)) HR.out,rfl⟩
    ·by_cases k5:y=46
     ·have f0:decide ((y:Int)<97)=true:=al (by omega);have g0:(y:Int)<97:=by omega
      have f1:decide ((122:Int)<(y:Int))=false:=dF (by omega);have g1:¬((122:Int)<(y:Int)):=by omega
      have f2:decide ((y:Int)<48)=true:=al (by omega);have g2:(y:Int)<48:=by omega
      have f3:decide ((57:Int)<(y:Int))=false:=dF (by omega);have g3:¬((57:Int)<(y:Int)):=by omega
      have f5:((y:Int)==46)=true:=by simp;omega
      have f6:((y:Int) != 46)=false:=by simp;omega
      have f7:decide ((y:Int)=46)=true:=al (by omega);have HN:Hid (VX s (k+1)=true):=by show _=_;rw[VX,HL.out,HY.out];simp[jP];omega
      clear Hr HY;go_wp2_with fail
      go_roundw
      case rel=>exact⟨k+1,by omega,by go_num,HN,by trivial⟩
      case measure=>simp[intOf];omega
     ·have f0:decide ((y:Int)<97)=true:=al (by omega);have g0:(y:Int)<97:=by omega
      have f1:decide ((122:Int)<(y:Int))=false:=dF (by omega);have g1:¬((122:Int)<(y:Int)):=by omega
      have f2:decide ((y:Int)<48)=true:=al (by omega);have g2:(y:Int)<48:=by omega
      have f3:decide ((57:Int)<(y:Int))=false:=dF (by omega);have g3:¬((57:Int)<(y:Int)):=by omega
      have f5:((y:Int)==46)=false:=by simp;omega
      have f6:((y:Int) != 46)=true:=by simp;omega
      have f7:decide ((y:Int)=46)=false:=dF (by omega)
      have HR:Hid (false=r):=by
       have hb:VX s (k+1)=false:=by rw[VX,HL.out,HY.out];simp[jP];omega
       have h9:=Yf hb (s.size-(k+1));rw[show k+1+(s.size-(k+1))=s.size by omega]at h9;exact h9.symm.trans Hr.out
      clear Hr HY;go_wp2_with fail
      go_ret
      exact⟨congrArg (λx=>Ending.returned (Value.bool x)) HR.out,rfl⟩
  ·obtain rfl:k=s.size:=by omega
   have d1:decide ((s.size:Int)<(s.size:Int))=false:=by simp
   have HR:=Za (HL.out.symm.trans Hr.out);go_wp2_with fail
   go_ret
   exact⟨congrArg (λx=>Ending.returned (Value.bool x)) HR.out,rfl⟩
theorem oQ(s:ByteArray)(w:World)(hs:s.size<=140737488355328) :
 Calls prog 62 #[.string s] w λe w'=>e=.returned (.bool (bI s))/\w'=w:=by
 unfold bI;by_cases h0:s.size=0
 ·obtain rfl:=zg h0;have e:(decide (1<=(⟨#[]⟩:ByteArray).size/\(⟨#[]⟩:ByteArray).size<=12)&&VX ⟨#[]⟩ (⟨#[]⟩:ByteArray).size)=false:=rfl;rw[e];go_enter func62,ntmps62
  go_wp2_with fail
  go_ret
  exact⟨rfl,rfl⟩
 ·by_cases h1:s.size<=12
  ·rw[decide_eq_true ⟨by omega,h1⟩,Bool.true_and];exact Ni s w (by omega) h1
  ·rw[decide_eq_false (by omega),Bool.false_and];have h1':(12:Int)<(s.size:Int):=by omega
   have d1:=al h1';have hne:=lL (b:=s) (by omega);have hne2:(s.toList == [])=false:=by rw[<-hne];cases s.toList<;>rfl
   go_enter func62,ntmps62
   go_wp2_with fail
   go_ret
   exact⟨rfl,rfl⟩
theorem Nj(s:ByteArray)(w:World)(h0:0<s.size)(h1:s.size<=12) :
 Calls prog 78 #[.string s] w λe w'=>e=.returned (.bool (VX s s.size))/\w'=w:=by
 have hne:=lL h0;have hne2:(s.toList == [])=false:=by rw[<-hne];cases s.toList<;>rfl
 have h1':(s.size:Int)<=12:=by omega
 have h0':(1:Int)<=(s.size:Int):=by omega
 obtain⟨r,hr⟩:∃r,VX s s.size=r:=⟨_,rfl⟩
 rw[hr];have Hr:=Za hr;clear hr;have cw:=λw=>ZQ (s.size:Int) 1 12 w
 rw[decide_eq_true ⟨h0',h1'⟩]at cw;go_enter func78,ntmps78
 go_wp2_with fail
 refine mo (cw _) ?_;rintro w1 rfl;clear cw;go_wp2_with fail
 go_loopw [3] (λi wr=>∃k:Nat,k<=s.size/\i=.int .i64 k/\Hid (VX s k=true)/\wr=w1) (λi _=>s.size-(intOf i).toNat)
 case atStart=>exact⟨0,by omega,rfl,rfl,rfl⟩
 case round =>
  obtain⟨k,hk2,rfl,HL,rfl⟩:=hrel;by_cases hlt:k<s.size
  ·have d1:=al (by omega:(k:Int)<(s.size:Int));have d1':=al (by omega:k<s.size);have hki:(k:Int)<(s.size:Int):=by omega
   have dG:=kR s k hlt
   obtain⟨y,hc⟩:∃y,s[k].toNat=y:=⟨_,rfl⟩
   rw[hc]at dG;have HY:=Za dG;clear dG;have vk:y<256:=by rw[<-hc];exact s[k].toNat_lt
   by_cases k1:97<=y
   ·by_cases k2:y<=122
    ·have f0:decide ((97:Int)<=(y:Int))=true:=al (by omega);have g0:(97:Int)<=(y:Int):=by omega
     have f1:decide ((y:Int)<=122)=true:=al (by omega);have g1:(y:Int)<=122:=by omega
     have HN:Hid (VX s (k+1)=true):=by show _=_;rw[VX,HL.out,HY.out];simp[jP];omega
     clear Hr HY;go_wp2_with fail
     go_roundw
     case rel=>exact⟨k+1,by omega,by go_num,HN,by trivial⟩
     case measure=>simp[intOf];omega
    ·have f0:decide ((97:Int)<=(y:Int))=true:=al (by omega);have g0:(97:Int)<=(y:Int):=by omega
     have f1:decide ((y:Int)<=122)=false:=dF (by omega);have g1:¬((y:Int)<=122):=by omega
     have f2:decide ((48:Int)<=(y:Int))=true:=al (by omega);have g2:(48:Int)<=(y:Int):=by omega
     have f3:decide ((y:Int)<=57)=false:=dF (by omega);have g3:¬((y:Int)<=57):=by omega
     have f5:((y:Int)==46)=false:=by simp;omega
     have f6:((y:Int) != 46)=true:=by simp;omega
     have f7:decide ((y:Int)=46)=false:=dF (by omega)
     have HR:Hid (false=r):=by
      have hb:VX s (k+1)=false:=by rw[VX,HL.out,HY.out];simp[jP];omega
      have h9:=Yf hb (s.size-(k+1));rw[show k+1+(s.size-(k+1))=s.size by omega]at h9;exact h9.symm.trans Hr.out
     clear Hr HY;go_wp2_with fail
     go_ret
     exact⟨congrArg (λx=>Ending.returned (Value.bool x)) HR.out,rfl⟩
   ·by_cases k3:48<=y
    ·by_cases k4:y<=57
     ·have f0:decide ((97:Int)<=(y:Int))=false:=dF (by omega);have g0:¬((97:Int)<=(y:Int)):=by omega
      have f1:decide ((y:Int)<=122)=true:=al (by omega);have g1:(y:Int)<=122:=by omega
      have f2:decide ((48:Int)<=(y:Int))=true:=al (by omega);have g2:(48:Int)<=(y:Int):=by omega
      have f3:decide ((y:Int)<=57)=true:=al (by omega);have g3:(y:Int)<=57:=by omega
      have f5:((y:Int)==46)=false:=by simp;omega
      have f6:((y:Int) != 46)=true:=by simp;omega
      have f7:decide ((y:Int)=46)=false:=dF (by omega);have HN:Hid (VX s (k+1)=true):=by show _=_;rw[VX,HL.out,HY.out];simp[jP];omega
      clear Hr HY;go_wp2_with fail
      go_roundw
      case rel=>exact⟨k+1,by omega,by go_num,HN,by trivial⟩
      case measure=>simp[intOf];omega
     ·have f0:decide ((97:Int)<=(y:Int))=false:=dF (by omega);have g0:¬((97:Int)<=(y:Int)):=by omega
      have f1:decide ((y:Int)<=122)=true:=al (by omega);have g1:(y:Int)<=122:=by omega
      have f2:decide ((48:Int)<=(y:Int))=true:=al (by omega);have g2:(48:Int)<=(y:Int):=by omega
      have f3:decide ((y:Int)<=57)=false:=dF (by omega);have g3:¬((y:Int)<=57):=by omega
      have f5:((y:Int)==46)=false:=by simp;omega
      have f6:((y:Int) != 46)=true:=by simp;omega
      have f7:decide ((y:Int)=46)=false:=dF (by omega)
      have HR:Hid (false=r):=by
       have hb:VX s (k+1)=false:=by rw[VX,HL.out,HY.out];simp[jP];omega
       have h9:=Yf hb (s.size-(k+1));rw[show k+1+(s.size-(k+1))=s.size by omega]at h9;exact h9.symm.trans Hr.out
      clear Hr HY;go_wp2_with fail
      go_ret
      exact⟨congrArg (λx=>Ending.returned (Value.bool x)) HR.out,rfl⟩
    ·by_cases k5:y=46
     ·have f0:decide ((97:Int)<=(y:Int))=false:=dF (by omega);have g0:¬((97:Int)<=(y:Int)):=by omega
      have f1:decide ((y:Int)<=122)=true:=al (by omega);have g1:(y:Int)<=122:=by omega
      have f2:decide ((48:Int)<=(y:Int))=false:=dF (by omega);have g2:¬((48:Int)<=(y:Int)):=by omega
      have f3:decide ((y:Int)<=57)=true:=al (by omega);have g3:(y:Int)<=57:=by omega
      have f5:((y:Int)==46)=true:=by simp;omega
      have f6:((y:Int) != 46)=false:=by simp;omega
      have f7:decide ((y:Int)=46)=true:=al (by omega);have HN:Hid (VX s (k+1)=true):=by show _=_;rw[VX,HL.out,HY.out];simp[jP];omega
      clear Hr HY;go_wp2_with fail
      go_roundw
      case rel=>exact⟨k+1,by omega,by go_num,HN,by trivial⟩
      case measure=>simp[intOf];omega
     ·have f0:decide ((97:Int)<=(y:Int))=false:=dF (by omega);have g0:¬((97:Int)<=(y:Int)):=by omega
      have f1:decide ((y:Int)<=122)=true:=al (by omega);have g1:(y:Int)<=122:=by omega
      have f2:decide ((48:Int)<=(y:Int))=false:=dF (by omega);have g2:¬((48:Int)<=(y:Int)):=by omega
      have f3:decide ((y:Int)<=57)=true:=al (by omega);have g3:(y:Int)<=57:=by omega
      have f5:((y:Int)==46)=false:=by simp;omega
      have f6:((y:Int) != 46)=true:=by simp;omega
      have f7:decide ((y:Int)=46)=false:=dF (by omega)
      have HR:Hid (false=r):=by
       have hb:VX s (k+1)=false:=by rw[VX,HL.out,HY.out];simp[jP];omega
       have h9:=Yf hb (s.size-(k+1));rw[show k+1+(s.size-(k+1))=s.size by omega]at h9;exact h9.symm.trans Hr.out
      clear Hr HY;go_wp2_with fail
      go_ret
      exact⟨congrArg (λx=>Ending.returned (Value.bool x)) HR.out,rfl⟩
  ·obtain rfl:k=s.size:=by omega
   have d1:decide ((s.size:Int)<(s.size:Int))=false:=by simp
   have HR:=Za (HL.out.symm.trans Hr.out);go_wp2_with fail
   go_ret
   exact⟨congrArg (λx=>Ending.returned (Value.bool x)) HR.out,rfl⟩
theorem sv(s:ByteArray)(w:World)(hs:s.size<=140737488355328) :
 Calls prog 78 #[.string s] w λe w'=>e=.returned (.bool (bI s))/\w'=w:=by
 unfold bI;by_cases h0:s.size=0
 ·obtain rfl:=zg h0;have e:(decide (1<=(⟨#[]⟩:ByteArray).size/\(⟨#[]⟩:ByteArray).size<=12)&&VX ⟨#[]⟩ (⟨#[]⟩:ByteArray).size)=false:=rfl;rw[e];have cw:=λw=>ZQ 0 1 12 w
  go_enter func78,ntmps78
  go_wp2_with fail
  refine mo (cw _) ?_;rintro w1 rfl;go_wp2_with fail
  go_ret
  exact⟨rfl,rfl⟩
 ·by_cases h1:s.size<=12
  ·rw[decide_eq_true ⟨by omega,h1⟩,Bool.true_and];exact Nj s w (by omega) h1
  ·rw[decide_eq_false (by omega),Bool.false_and];have h1':(12:Int)<(s.size:Int):=by omega
   have d1:=al h1';have hne:=lL (b:=s) (by omega);have hne2:(s.toList == [])=false:=by rw[<-hne];cases s.toList<;>rfl
   have cw:=λw=>ZQ (s.size:Int) 1 12 w
   rw[decide_eq_false (by omega)]at cw;go_enter func78,ntmps78
   go_wp2_with fail
   refine mo (cw _) ?_;rintro w1 rfl;go_wp2_with fail
   go_ret
   exact⟨rfl,rfl⟩
namespace Dk
theorem VL(l:List UInt8):(ba l).data.toList=l:=by simp[ba]
theorem VF(l:List UInt8):(ba l).size=l.length:=by rw[Zf,VL]
theorem fE(s:ByteArray):ba s.data.toList=s:=by simp[ba]
theorem Wo(h:x≠L):((ba x).toList==L)=false:=by rw[ByteArray.toList_eq,VL];simpa using h
theorem bJ{b:Bool}(h:(x==L)=b):((ba x).toList==L)=b:=by rw[ByteArray.toList_eq,VL];exact h
def w1(r:List UInt8):List UInt8:=(Wr 32 r).1
def w2(r:List UInt8):List UInt8:=(Wr 32 r).2.1
def w3(r:List UInt8):Bool:=(Wr 32 r).2.2
theorem dN(c:UInt8):∀l:List UInt8,(Wr c l).1.length<=l.length/\(Wr c l).2.1.length<=l.length
 |[]=>⟨nl _,nl _⟩
 |x :: l=>by
  have h:=dN c l;unfold Wr;by_cases hx:x=c
  ·rw[ax hx];simp
  ·rw[ab hx];simp;omega
theorem aA(r:List UInt8):(w1 r).length<=r.length/\(w2 r).length<=r.length:=dN 32 r
end Dk
namespace Dk
def kS(s:ByteArray)(k:Nat):Prop:=∀i,i<k->48<=Cd.at8 s i/\Cd.at8 s i<=57
theorem aX(h:i<s.data.toList.length):Cd.at8 s i=(s.data.toList[i]).toNat:=by simp only[Cd.at8,List.getElem?_eq_getElem h,Option.getD_some]
theorem fF(h:kS s k)(h2:48<=Cd.at8 s k/\Cd.at8 s k<=57):kS s (k+1):=λi hi=>by
 by_cases e:i=k
 ·rw[e];exact h2
 ·exact h i (by omega)
theorem oR(h0:1<=s.size)(h6:s.size<=6)(hz:s.size=1\/Cd.at8 s 0≠48)(hd:kS s s.size):Ws s.data.toList:=by
 rw[Zf]at h0 h6 hz hd;refine⟨h0,h6,λx hx=>?_,hz.imp id λh=>?_⟩
 ·obtain⟨i,hi,rfl⟩:=List.getElem_of_mem hx;have:=hd i hi;rw[aX hi]at this;exact this
 ·intro e;rw[List.head?_eq_getElem?,List.getElem?_eq_getElem (by omega)]at e;rw[aX (by omega),Option.some.inj e]at h;exact h rfl
theorem iq(hk:k<s.size)(h:¬(48<=Cd.at8 s k/\Cd.at8 s k<=57)):¬Ws s.data.toList:=λh9=>by
 rw[Zf]at hk;rw[aX hk]at h;exact h (h9.2.2.1 _ (gM hk))
theorem kT(hk:1<s.size)(h:Cd.at8 s 0=48):¬Ws s.data.toList:=λh9=>by
 rw[Zf]at hk;rcases h9.2.2.2 with h8|h8
 ·omega
 ·rw[List.head?_eq_getElem?,List.getElem?_eq_getElem (by omega)]at h8;rw[aX (by omega)]at h;exact h8 (congrArg some (UInt8.toNat_inj.1 h))
theorem fG(h:Ws s.data.toList):1<=s.size/\s.size<=6:=by rw[Zf];exact⟨h.1,h.2.1⟩
end Dk
theorem gK(w:World)(a b:Array Value)(s t:TypeId):(∀i,((w.alloc (.cells a s (0,0))).alloc (.cells b t (0,0))).cell? ⟨w.heap.size,i,none⟩=a[i]?)/\∀i,((w.alloc (.cells a s (0,0))).alloc (.cells b t (0,0))).cell? ⟨w.heap.size+1,i,none⟩=b[i]?:=by
 constructor
 ·intro i;rw[World.cell?_alloc_lt _ _ _ (by simp),World.cell?_alloc_new]
 ·intro i;have e:(w.alloc (.cells a s (0,0))).heap.size=w.heap.size+1:=by simp
  rw[<-e,World.cell?_alloc_new]
theorem qg(ad af:Option Addr)(cd cf:Nat)(a:Ar.A)(n:Int)(w:World)(hd:a.aa.length<=8796093022208) :
 CB 63 #[av ad cd af cf a,.int .i64 n] w (.bool (VY a.aa n)):=by
 unfold av VY;generalize a.aa.length=D at*;generalize a.files.length=F at*;have hD:(D:Int)<=8796093022208:=by omega
 by_cases h1:0<=n
 ·have d1:=al h1;by_cases h2:n<=(D:Int)
  ·have d2:=al h2;rw[decide_eq_true ⟨h1,h2⟩];go_enter func63,ntmps63
   go_wp2_with fail
   go_ret
   exact⟨rfl,(bR _ _).alloc (nl _) _⟩
  ·have d2:=dF h2;rw[decide_eq_false (λh=>h2 h.2)];go_enter func63,ntmps63
   go_wp2_with fail
   go_ret
   exact⟨rfl,(bR _ _).alloc (nl _) _⟩
 ·have d1:=dF h1;rw[decide_eq_false (λh=>h1 h.1)];go_enter func63,ntmps63
  go_wp2_with fail
  go_ret
  exact⟨rfl,(bR _ _).alloc (nl _) _⟩
theorem bz.at{w:World}{ad:Option Addr}{xs:List ByteArray}(h:bz w ad xs){i:Nat}(hi:i<xs.length):∃b off,ad=some ⟨b,off,none⟩/\b<w.heap.size/\w.cell? ⟨b,off+i,none⟩=some (.string (VA xs i)):=by
 rcases h with rfl|⟨b,off,h1,h2⟩
 ·simp at hi
 ·exact⟨b,off,h1,h2.1,h2.2 i hi⟩
theorem ED(ad af:Option Addr)(cd cf:Nat)(a:Ar.A)(n:Int)(w:World)(hd:bz w ad a.aa)(hl:a.aa.length<=8796093022208)(hn:VY a.aa n=true) :
 CB 98 #[av ad cd af cf a,.int .i64 n] w (.string (V5 a.aa n)):=by
 obtain⟨h1,h2⟩:=of_decide_eq_true hn;unfold av V5;by_cases h0:n=0
 ·subst h0;rw[ax rfl];go_enter func98,ntmps98
  go_wp2_with fail
  go_ret
  exact⟨rfl,(bR _ _).alloc (nl _) _⟩
 ·obtain⟨m,rfl⟩:∃m:Nat,n=(m:Int)+1:=⟨(n-1).toNat,by omega⟩
  rw[ab h0,show(((m:Int)+1-1).toNat)=m by omega];obtain⟨b,off,rfl,hb,hc⟩:=hd.at (i:=m) (by omega)
  generalize VA a.aa m=X at*;have hml:m<a.aa.length:=by omega
  generalize a.aa.length=D at*;generalize a.files.length=F at*;have e0:(((m:Int)+1)==0)=false:=by simp;omega
  have e1:=dF h0;have e2:(m:Int)+1-1=(m:Int):=by omega
  have jQ:(m:Int)<(D:Int):=by omega
  have Nk:(m:Int)<=8796093022208:=by omega
  have hk:=(bR w.heap.size w).alloc (nl _) (.cells #[.slice (some ⟨b,off,none⟩) D cd,.slice af F cf] 35 (0,0));have hc2:=hk.cell (p:=⟨b,off+m,none⟩) hb;clear hn h1 h2;go_enter func98,ntmps98
  go_wp2_with fail
  go_ret
  exact⟨rfl,hk⟩
namespace Ar
theorem aay(h:WC xs k=some i):∀j,WC xs (k+j)=some i:=by
 intro j
 induction j with
 |zero=>exact h
 |succ j ih=>rw[<-Nat.add_assoc,WC,ih]
end Ar
theorem Nl(t:ByteArray)(w:World) :
 CB 139 #[.string t] w (.bool (decide ((256:Int)<(t.size:Int)))):=by
 go_enter func139,ntmps139
 go_wp2_with fail
 go_ret
 exact⟨rfl,bR _ _⟩
theorem Nn(xs:List ByteArray)(b off cap:Nat)(w:World)(hx:WV w b off xs)(hn2:xs.length<=1000)(hB:∀i,(VA xs i).size<=140737488355328) :
 CB 106 #[.slice (some ⟨b,off,none⟩) xs.length cap,.func (.func 139) #[] #[]] w (.int .i64 (match WC xs xs.length with|none=>-1|some i=>(i:Int))):=by
 have HX:=Za λw' (h:WV w' b off xs)=>h.2
 have HB:=Za hB;clear hB
 obtain⟨r,hr⟩:∃r,(match WC xs xs.length with|none=>(-1:Int)|some i=>(i:Int))=r:=⟨_,rfl⟩
 rw[hr];have Hr:=Za hr;clear hr;go_enter func106,ntmps106
 go_wp2_with fail
 go_loopw [8] (λi wr=>∃k:Nat,k<=xs.length/\i=.int .i64 k/\Hid (WC xs k=none)/\WV wr b off xs/\ae w wr) (λi _=>xs.length-(intOf i).toNat)
 case atStart=>exact⟨0,by omega,rfl,rfl,hx,bR _ _⟩
 case round =>
  clear hx;obtain⟨k,hk2,rfl,HL,hx,B1⟩:=hrel;by_cases hlt:k<xs.length
  ·have d1:=al (by omega:(k:Int)<(xs.length:Int));have d1':=al (by omega:k<xs.length);have hki:(k:Int)<(xs.length:Int):=by omega
   have c1:=HX.out wr hx k hlt;have z1:=HB.out k;have c2:=λw=>Nl (VA xs k) w
   by_cases hs:256<(VA xs k).size
   ·have HN:Hid (WC xs (k+1)=some k):=by show _=_;rw[WC,HL.out];exact ax hs
    have HR:Hid ((k:Int)=r):=by
     have h9:=aay HN.out (xs.length-(k+1));rw[show k+1+(xs.length-(k+1))=xs.length by omega]at h9;have:=Hr.out;rw[h9]at this;exact this
    have d2:decide ((256:Int)<((VA xs k).size:Int))=true:=al (by omega);rw[d2]at c2;generalize VA xs k=X at*;clear HN hs d2;go_wp2_with fail
    refine mo (c2 _) λw2 G=>?_
    have B2:=ag B1 G;go_wp2_with fail
    go_ret
    exact⟨congrArg (λx=>Ending.returned (Value.int .i64 x)) HR.out,B2⟩
   ·have HN:Hid (WC xs (k+1)=none):=by show _=_;rw[WC,HL.out];exact ab hs
    have d2:decide ((256:Int)<((VA xs k).size:Int))=false:=dF (by omega);rw[d2]at c2;generalize VA xs k=X at*;clear hs d2;go_wp2_with fail
    refine mo (c2 _) λw2 G=>?_
    have B2:=ag B1 G;have hx2:=hx.below G;clear B1 G hx;go_wp2_with fail
    go_roundw
    case rel=>exact⟨k+1,by omega,by go_num,HN,hx2,B2⟩
    case measure=>simp[intOf];omega
  ·obtain rfl:k=xs.length:=by omega
   have HR:Hid ((-1:Int)=r):=by have:=Hr.out;rw[HL.out]at this;exact this
   have d1:decide ((xs.length:Int)<(xs.length:Int))=false:=by simp
   clear Hr;go_wp2_with fail
   go_ret
   exact⟨congrArg (λx=>Ending.returned (Value.int .i64 x)) HR.out,B1⟩
theorem Np(ad:Option Addr)(cap:Nat)(w:World) :
 CB 106 #[.slice ad 0 cap,.func (.func 139) #[] #[]] w (.int .i64 (-1)):=by
 go_enter func106,ntmps106
 go_wp2_with fail
 go_loopw [8] (λi wr=>i=.int .i64 0/\ae w wr) (λi _=>0)
 case atStart=>exact⟨rfl,bR _ _⟩
 case round =>
  obtain⟨rfl,B1⟩:=hrel;go_wp2_with fail
  go_ret
  exact⟨rfl,B1⟩
theorem Nq(xs:List ByteArray)(ad:Option Addr)(cap:Nat)(w:World)(hx:bz w ad xs)(hn2:xs.length<=1000)(hB:∀i,(VA xs i).size<=140737488355328) :
 CB 106 #[.slice ad xs.length cap,.func (.func 139) #[] #[]] w (.int .i64 (match WC xs xs.length with|none=>-1|some i=>(i:Int))):=by
 rcases hx with rfl|⟨b,off,rfl,h2⟩
 ·exact Np ad cap w
 ·exact Nn xs b off cap w h2 hn2 hB
theorem Nr(xs:List ByteArray)(ad:Option Addr)(cap:Nat)(w:World)(hx:bz w ad xs)(hn2:xs.length<=1000)(hB:∀i,(VA xs i).size<=140737488355328) :
 CB 138 #[.slice ad xs.length cap,.func (.func 139) #[] #[]] w (.bool (WC xs xs.length).isSome):=by
 have c1:=Nq xs ad cap w hx hn2 hB
 cases hq:WC xs xs.length with
 |none =>
  rw[hq]at c1;simp only at c1;clear hq;go_enter func138,ntmps138
  go_wp2_with fail
  refine mo c1 λw1 G=>?_
  go_wp2_with fail
  go_ret
  exact⟨rfl,G⟩
 |some i =>
  rw[hq]at c1;simp only at c1;clear hq;have h0:(0:Int)<=(i:Int):=by omega
  have d0:=al h0;go_enter func138,ntmps138
  go_wp2_with fail
  refine mo c1 λw1 G=>?_
  go_wp2_with fail
  go_ret
  exact⟨rfl,G⟩
theorem zh(ad af:Option Addr)(cd cf:Nat)(a:Ar.A)(n:Int)(w:World)(hd:bz w ad a.aa)(hl:a.aa.length<=8796093022208)(hn:VY a.aa n=true) :
 CB 81 #[av ad cd af cf a,.int .i64 n] w (.string (V5 a.aa n)):=by
 obtain⟨h1,h2⟩:=of_decide_eq_true hn;unfold av V5;by_cases h0:n=0
 ·subst h0;rw[ax rfl];go_enter func81,ntmps81
  go_wp2_with fail
  go_ret
  exact⟨rfl,(bR _ _).alloc (nl _) _⟩
 ·obtain⟨m,rfl⟩:∃m:Nat,n=(m:Int)+1:=⟨(n-1).toNat,by omega⟩
  rw[ab h0,show(((m:Int)+1-1).toNat)=m by omega];obtain⟨b,off,rfl,hb,hc⟩:=hd.at (i:=m) (by omega)
  generalize VA a.aa m=X at*;have hml:m<a.aa.length:=by omega
  generalize a.aa.length=D at*;generalize a.files.length=F at*;have e0:(((m:Int)+1)==0)=false:=by simp;omega
  have e1:=dF h0;have e2:(m:Int)+1-1=(m:Int):=by omega
  have jQ:(m:Int)<(D:Int):=by omega
  have Nk:(m:Int)<=8796093022208:=by omega
  have hk:=(bR w.heap.size w).alloc (nl _) (.cells #[.slice (some ⟨b,off,none⟩) D cd,.slice af F cf] 35 (0,0));have hc2:=hk.cell (p:=⟨b,off+m,none⟩) hb;clear hn h1 h2;go_enter func81,ntmps81
  go_wp2_with fail
  go_ret
  exact⟨rfl,hk⟩
theorem EE(ad af:Option Addr)(cd cf:Nat)(a:Ar.A)(w:World)(hx:bz w ad a.aa)(hs:ao a) :
 CB 102 #[av ad cd af cf a] w (.bool (W6 a)):=by
 have hk:=λo=>(bR w.heap.size w).alloc (nl _) o
 have hn:=hs.nd;have hf:=hs.nf;have c1:=λw hx h=>Nr a.aa ad cd w hx h hs.ds
 unfold W6 av;generalize (WC a.aa a.aa.length).isSome=r at*;have HX:=Za λo=>hx.below (hk o)
 clear hx;generalize a.aa=ds at*;generalize a.files.length=F at*
 obtain⟨D,hD⟩:∃D,ds.length=D:=⟨_,rfl⟩
 rw[hD]at c1 hn |-
 have hDi:(D:Int)<=8796093022208:=by omega
 have Ve:(F:Int)<=8796093022208:=by omega
 by_cases h1:4<D
 ·have h1':(4:Int)<(D:Int):=by omega
  have d1:=al h1';rw[decide_eq_true (show 4<D\/12<F from .inl h1),Bool.true_or];go_enter func102,ntmps102
  go_wp2_with fail
  go_ret
  exact⟨rfl,hk _⟩
 ·have h1':¬(4:Int)<(D:Int):=by omega
  have d1:=dF h1';by_cases h2:12<F
  ·have h2':(12:Int)<(F:Int):=by omega
   have d2:=al h2';rw[decide_eq_true (show 4<D\/12<F from .inr h2),Bool.true_or];go_enter func102,ntmps102
   go_wp2_with fail
   go_ret
   exact⟨rfl,hk _⟩
  ·have h2':¬(12:Int)<(F:Int):=by omega
   have d2:=dF h2';rw[decide_eq_false (show ¬(4<D\/12<F) by omega),Bool.false_or];have hb:=hk (.cells #[.slice ad D cd,.slice af F cf] 35 (0,0));have c2:=c1 _ (HX.out (.cells #[.slice ad D cd,.slice af F cf] 35 (0,0))) (by omega);clear c1;go_enter func102,ntmps102
   go_wp2_with fail
   refine mo c2 λw1 G=>?_
   go_wp2_with fail
   go_ret
   exact⟨rfl,ag hb G⟩
theorem xH{d:Nat}:∀{l:List Tk.T} {s:List UInt8} {p:Bool},(VK d s p l).1=0->s.length<=d+512->(VK d s p l).2.length<=d+512
 |[],_,_,_,h=>h
 |t :: l,s,p,h1,h2=>by
  by_cases he:VQ d s p t=0
  ·rw[Xm he]at h1 |-
   exact xH h1 (by have h9:=X8 he;have:=h9.1;have:=h9.2.1;have:=h9.2.2.2.2;omega)
  ·rw[iC he]at h1;exact absurd h1 he
theorem Bk.ir(h:(Wv dict s).2=0):(Wv dict s).1.size<=512:=by
 unfold Wv at h |-
 cases hm:ZM dict s with
 |none=>rw[hm]at h;cases h
 |some l =>
  simp only;unfold gZ;split
  ·show 0<=_;omega
  ·rename_i h9
   have h8:=Decidable.not_not.1 h9;unfold Zw at h8;split at h8
   ·cases h8
   ·have:=xH h8 (by simp);show(List.toArray _).size<=512;simp;omega
theorem Bk.cD(h:(WH dict b).2=0):(WH dict b).1.size<=512:=by
 have z:(⟨#[]⟩:ByteArray).size<=512:=by decide
 unfold WH at h |-
 split
 ·exact z
 ·rename_i h1
  rw[ab h1]at h;split
  ·exact z
  ·rename_i h2
   rw[ab h2]at h;split
   ·rename_i h3
    rw[ax h3]at h;unfold jo at h |-
    split
    ·exact z
    ·rename_i h4;exact Nat.le_of_not_lt h4
   ·rename_i h3
    rw[ab h3]at h;split
    ·rename_i h4
     rw[ax h4]at h;exact Bk.ir h
    ·rename_i h4
     rw[ab h4]at h;split
     ·rename_i h5
      rw[ax h5]at h;split
      ·rename_i h6
       rw[ax h6]at h;exact Bk.ir h
      ·exact z
     ·exact z
namespace Ar
def lM(ds:List ByteArray)(f:F):ByteArray:=if dR ds f=true then WX ds f else⟨#[]⟩
end Ar
theorem Ns(ad af:Option Addr)(cd cf:Nat)(a:Ar.A)(f:Ar.F)(w:World)(hx:bz w ad a.aa)(hs:ao a)(hfb:f.blk.size<=140737488355328) :
 CB 103 #[av ad cd af cf a,fv f] w (.tuple #[.string (lM a.aa f),.bool (dR a.aa f)]):=by
 have hn:=hs.nd;have c1:=λw=>qg ad af cd cf a f.dict w hn
 have HX:=Za λw' (h:ae w w')=>hx.below h
 clear hx
 cases hh:VY a.aa f.dict with
 |false =>
  have e1:dR a.aa f=false:=by unfold dR;rw[hh];rfl
  have e2:lM a.aa f=⟨#[]⟩:=by unfold lM;rw[e1];rfl
  rw[e1,e2];rw[hh]at c1;unfold av at c1 |-
  unfold fv;generalize a.aa.length=D at*;generalize a.files.length=F at*;clear e1 e2 hh hs;go_enter func103,ntmps103
  go_wp2_with fail
  refine mo (c1 _) λw1 G=>?_
  go_wp2_with fail
  go_ret2
  exact⟨rfl,l8 (((bR _ _).alloc (nl _) _).alloc (by simp) _) G (by simp)⟩
 |true =>
  have c2:=λw hx=>ED ad af cd cf a f.dict w hx hn hh
  have c3:=λw=>ML (V5 a.aa f.dict) f.blk w (hs.df _) hfb
  rw[hh]at c1;unfold av at c1 c2 |-
  unfold fv;have HO:Hid (dR a.aa f=decide ((Wd a.aa f).2=0/\((Wd a.aa f).1.size:Int)=f.size/\Wn (Wd a.aa f).1=f.sum)):=by show _=_;unfold dR;rw[hh,Bool.true_and]
  have HU:Hid (Wd a.aa f=WH (V5 a.aa f.dict) f.blk):=rfl;have HZ:Hid ((Wd a.aa f).2=0->(Wd a.aa f).1.size<=512):=λh=>Bk.cD h
  generalize V5 a.aa f.dict=X at*;have HT:Hid (lM a.aa f=if dR a.aa f=true then(Wd a.aa f).1 else⟨#[]⟩):=rfl;rw[HT.out,HO.out];rw[HU.out]at HZ |-
  obtain⟨U,hU⟩:∃U,WH X f.blk=U:=⟨_,rfl⟩
  simp only[hU]at c3 HZ |-
  obtain⟨T,E⟩:=U;simp only at c3 HZ |-
  obtain⟨r,hr⟩:∃r,decide (E=0/\(T.size:Int)=f.size/\Wn T=f.sum)=r:=⟨_,rfl⟩
  rw[hr];have HR:=Za hr
  obtain⟨t,ht⟩:∃t,(if r=true then T else⟨#[]⟩)=t:=⟨_,rfl⟩
  rw[ht];have HT2:=Za ht;clear HO HU HT hU hh hs hr ht;generalize f.name=f0 at*;generalize f.dict=f1 at*;generalize f.size=f2 at*;generalize f.sum=f3 at*;generalize f.blk=f4 at*;generalize a.aa.length=D at*;generalize a.files.length=F at*;go_enter func103,ntmps103
  go_wp2_with fail
  refine mo (c1 _) λw1 G=>?_
  clear c1;have B0:ae w ((w.alloc (.cells #[.slice ad D cd,.slice af F cf] 35 (0,0))).alloc (.cells #[.string f0,.int .i64 f1,.int .i64 f2,.int .i64 f3,.string f4] 73 (0,0))):=((bR _ _).alloc (nl _) _).alloc (by simp) _;have hA:=λi=>(G.cell (p:=⟨w.heap.size,i,none⟩) (by show w.heap.size<_;simp;omega)).trans ((gK w _ _ _ _).1 i)
  have hF:=λi=>(G.cell (p:=⟨w.heap.size+1,i,none⟩) (by simp)).trans ((gK w _ _ _ _).2 i)
  have hz:w.heap.size+1<w1.heap.size:=by have:=G.size;simp at this;omega
  have B1:=ag B0 G;clear G B0;have a0:w1.cell? ⟨w.heap.size,0,none⟩=some (.slice ad D cd):=hA 0;have a1:w1.cell? ⟨w.heap.size,1,none⟩=some (.slice af F cf):=hA 1;have b1:w1.cell? ⟨w.heap.size+1,1,none⟩=some (.int .i64 f1):=hF 1;have b2:w1.cell? ⟨w.heap.size+1,2,none⟩=some (.int .i64 f2):=hF 2;have b3:w1.cell? ⟨w.heap.size+1,3,none⟩=some (.int .i64 f3):=hF 3;have b4:w1.cell? ⟨w.heap.size+1,4,none⟩=some (.string f4):=hF 4;clear hA hF
  have HS:Hid (∀w',ae w1 w'->ae w1 w'/\w'.cell? ⟨w.heap.size,0,none⟩=some (.slice ad D cd)/\w'.cell? ⟨w.heap.size,1,none⟩=some (.slice af F cf)/\w'.cell? ⟨w.heap.size+1,1,none⟩=some (.int .i64 f1)/\w'.cell? ⟨w.heap.size+1,4,none⟩=some (.string f4)):=λw' h =>
   ⟨h,(h.cell (p:=⟨w.heap.size,0,none⟩) (by show w.heap.size<_;omega)).trans a0,(h.cell (p:=⟨w.heap.size,1,none⟩) (by show w.heap.size<_;omega)).trans a1,(h.cell (p:=⟨w.heap.size+1,1,none⟩) hz).trans b1,(h.cell (p:=⟨w.heap.size+1,4,none⟩) hz).trans b4⟩
  have C2:=Za λw' (h:ae w1 w')=>c2 w' (HX.out _ (ag B1 h))
  have C3:=Za c3;clear c2 c3;go_wp2_with fail
  go_region_held3 (λw'=>ae w1 w'/\w'.cell? ⟨w.heap.size,0,none⟩=some (.slice ad D cd)/\w'.cell? ⟨w.heap.size,1,none⟩=some (.slice af F cf)/\w'.cell? ⟨w.heap.size+1,1,none⟩=some (.int .i64 f1)/\w'.cell? ⟨w.heap.size+1,4,none⟩=some (.string f4))
   (first|(exact HS.out _ ((bR _ _).drew))|(exact HS.out _ (ag (And.left (by assumption)) G5))|(exact HS.out _ (ag (And.left (by assumption)) G4))|(go_keep;done))
   (first
    |(go_at_call 98;refine(C2.out _ ?_).mono ?_;exact And.left (by assumption);rintro e w4 ⟨rfl,G4⟩)
    |(go_at_call 140;refine(C3.out _).mono ?_;rintro e w5 ⟨rfl,G5⟩))
  have B5:=ag (ag ((bR _ _).drew) G4) G5;have b2':=(B5.cell (p:=⟨w.heap.size+1,2,none⟩) hz).trans b2;have b3':=(B5.cell (p:=⟨w.heap.size+1,3,none⟩) hz).trans b3;have B6:=ag B1 B5
  have B7:Hid (∀n,ae w (w5.drewN n)):=λn=>⟨B6.os,B6.tape,B6.output,B6.size,B6.block⟩
  clear G4 G5 HS C2 C3 a0 a1 b1 b2 b3 b4 B5 B6 B1 HX;by_cases hE:E=0
  ·subst hE;have hT:=HZ.out rfl;have C6:=λw=>BY T w (by omega)
   have hsm:Hid ((eA T T.size:Int)=Wn T):=rfl;have hT':(T.size:Int)<=512:=by omega
   by_cases h2:(T.size:Int)=f2
   ·subst h2;by_cases h3:Wn T=f3
    ·subst h3;have hr:Hid (r=true):=by show _=_;rw[<-HR.out];exact al ⟨rfl,rfl,rfl⟩
     clear HR;rw[hsm.out]at C6;generalize Wn T=M at*;clear hsm;go_wp2_with fail
     go_quiet ((go_at_call 99;exact Calls.quiet_of_same (C6 _)))
     all_goals
      go_wp2_with fail
      go_ret2
      exact⟨by rw[<-HT2.out,hr.out];rfl,B7.out _⟩
    ·have hr:Hid (r=false):=by show _=_;rw[<-HR.out];exact dF (λh=>h3 h.2.2)
     clear HR;rw[hsm.out]at C6;generalize Wn T=M at*;clear hsm;have e1:(M != f3)=true:=by simpa using h3
     have e2:(M==f3)=false:=by simpa using h3
     have e3:=dF h3;go_wp2_with fail
     go_quiet ((go_at_call 99;exact Calls.quiet_of_same (C6 _)))
     all_goals
      go_wp2_with fail
      go_ret2
      exact⟨by rw[<-HT2.out,hr.out];rfl,B7.out _⟩
   ·have hr:Hid (r=false):=by show _=_;rw[<-HR.out];exact dF (λh=>h2 h.2.1)
    clear HR;have e1:((T.size:Int) != f2)=true:=by simpa using h2
    have e2:((T.size:Int)==f2)=false:=by simpa using h2
    have e3:=dF h2;clear C6 hsm;go_wp2_with fail
    go_quiet (fail)
    all_goals
     go_wp2_with fail
     go_ret2
     exact⟨by rw[<-HT2.out,hr.out];rfl,B7.out _⟩
  ·have hr:Hid (r=false):=by show _=_;rw[<-HR.out];exact dF (λh=>hE h.1)
   clear HR;have e1:(E != 0)=true:=by simpa using hE
   have e2:(E==0)=false:=by simpa using hE
   have e3:=dF hE;go_wp2_with fail
   go_quiet (fail)
   all_goals
    go_wp2_with fail
    go_ret2
    exact⟨by rw[<-HT2.out,hr.out];rfl,B7.out _⟩
namespace Ar
theorem eP(h:i<fs.length):Nm fs i=fs[i]:=by simp[Nm,h]
def gq(fs:List F):Prop:=∀i j,i<j->j<fs.length->VI (Nm fs i).name (Nm fs j).name=true
theorem Nt{a:ByteArray}(h:VI a b=true):VI b a=false:=by
 cases h2:VI b a with
 |false=>rfl
 |true=>have:=Yx h h2;rw[jD]at this;cases this
theorem Z0{a:A}:∀{k i:Nat},WW a k=true->i<k->dQ a i=true
 |0,i,_,h=>by omega
 |k+1,i,h,hi=>by
  rw[WW,Bool.and_eq_true]at h;by_cases e:i=k
  ·subst e;exact h.2
  ·exact Z0 h.1 (by omega)
theorem EF{a:A}:∀{k:Nat},(∀i,i<k->dQ a i=true)->WW a k=true
 |0,_=>rfl
 |k+1,h=>by rw[WW,EF (λi hi=>h i (by omega)),h k (by omega)];rfl
theorem Y9(h:dQ a i=true):bI (Nm a.files i).name=true/\(i=0\/VI (Nm a.files (i-1)).name (Nm a.files i).name=true)/\dR a.aa (Nm a.files i)=true:=by
 simp only[dQ,Bool.and_eq_true,Bool.or_eq_true,decide_eq_true_iff]at h;exact⟨h.1.1,h.1.2,h.2⟩
theorem vm(h:WW a a.files.length=true):gq a.files:=by
 intro i j hij hj
 induction j with
 |zero=>omega
 |succ j ih =>
  have h1:=(Y9 (Z0 h hj)).2.1;rcases h1 with h1|h1
  ·omega
  ·by_cases e:i=j
   ·subst e;exact h1
   ·exact Yx (ih (by omega) (by omega)) h1
theorem Yg(fs:List F)(name:ByteArray):VG fs name<=fs.length:=(List.takeWhile_prefix _).length_le
theorem qh(h:i<VG fs name):VI (Nm fs i).name name=true:=by
 have hl:=Yg fs name;have hp:fs.takeWhile (λf=>VI f.name name) <+: fs:=List.takeWhile_prefix _;have h1:(fs.takeWhile λf=>VI f.name name)[i]'h=fs[i]'(by omega):=List.IsPrefix.getElem hp h;rw[eP (by omega),<-h1];have:=List.all_takeWhile (p:=λf=>VI f.name name) (l:=fs);rw[List.all_eq_true]at this;exact this _ (gM h)
theorem vn(h:VG fs name<fs.length):VI (Nm fs (VG fs name)).name name=false:=by
 rw[eP h]
 induction fs with
 |nil=>simp at h
 |cons f fs ih =>
  cases hb:VI f.name name with
  |false =>
   have e:VG (f :: fs) name=0:=by simp[VG,hb]
   simp only[e,List.getElem_cons_zero];exact hb
  |true =>
   have e:VG (f :: fs) name=VG fs name+1:=by simp[VG,hb]
   simp only[e,List.getElem_cons_succ];exact ih (by rw[e]at h;simpa using h)
theorem EG(hi:i<=fs.length)(h1:∀k,k<i->VI (Nm fs k).name name=true)(h2:i<fs.length->VI (Nm fs i).name name=false):VG fs name=i:=by
 by_cases e1:VG fs name<i
 ·have:=h1 _ e1;rw[vn (by omega)]at this;cases this
 ·by_cases e2:i<VG fs name
  ·have:=h2 (by have:=Yg fs name;omega);rw[qh e2]at this;cases this
  ·omega
theorem ZH(h:ZI fs name=true):VG fs name<fs.length/\(Nm fs (VG fs name)).name=name:=of_decide_eq_true h
theorem EH(hs:gq fs){i:Nat}(hi:i<fs.length):VG fs (Nm fs i).name=i :=
 EG (by omega) (λk hk=>hs k i hk hi) (λ_=>jD _)
theorem EI(hs:gq fs){i:Nat}(hi:i<fs.length):ZI fs (Nm fs i).name=true:=by
 rw[ZI,EH hs hi];exact al ⟨hi,rfl⟩
theorem EJ(hs:gq fs){name:ByteArray}(h:ZI fs name=false){i:Nat}(hi:i<fs.length):(Nm fs i).name≠name:=by
 rintro rfl;rw[EI hs hi]at h;cases h
theorem qi(hs:gq fs){name:ByteArray}{i:Nat}(h1:VG fs name<i)(h2:i<fs.length):VI name (Nm fs i).name=true:=by
 have h3:=vn (fs:=fs) (name:=name) (by omega);have h4:=hs _ i h1 h2
 cases h5:VI name (Nm fs (VG fs name)).name with
 |true=>exact Yx h5 h4
 |false=>rw[Y1 h5 h3];exact h4
theorem Nu(h:VG fs name<fs.length)(ht:ZI fs name=false):VI name (Nm fs (VG fs name)).name=true:=by
 have h3:=vn h
 cases h5:VI name (Nm fs (VG fs name)).name with
 |true=>rfl
 |false =>
  have:ZI fs name=true:=al ⟨h,(Y1 h5 h3).symm⟩;rw[this]at ht;cases ht
def Xz(fs:List F)(name:ByteArray):Nat->Option Nat
 |0=>none
 |k+1=>match Xz fs name k with
  |some i=>some i
  |none=>if(Nm fs k).name=name then some k else none
theorem Nv(h:Xz fs name k=some i):∀j,Xz fs name (k+j)=some i:=by
 intro j
 induction j with
 |zero=>exact h
 |succ j ih=>rw[<-Nat.add_assoc,Xz,ih]
theorem EK{fs:List F}{name:ByteArray}:∀{k:Nat},(match Xz fs name k with|none=>∀j,j<k->(Nm fs j).name≠name|some i=>i<k/\(Nm fs i).name=name)
 |0=>by intro j h;omega
 |k+1=>by
  have ih:=EK (fs:=fs) (name:=name) (k:=k);rw[Xz]
  cases h:Xz fs name k with
  |some i=>rw[h]at ih;exact⟨by have:=ih.1;omega,ih.2⟩
  |none =>
   rw[h]at ih;simp only at ih |-
   by_cases hs:(Nm fs k).name=name
   ·rw[ax hs];exact⟨by omega,hs⟩
   ·rw[ab hs];intro j hj;by_cases e:j=k
    ·subst e;exact hs
    ·exact ih j (by omega)
theorem zi(hs:gq fs)(name:ByteArray):Xz fs name fs.length=if ZI fs name=true then some (VG fs name) else none:=by
 have h:=EK (fs:=fs) (name:=name) (k:=fs.length)
 cases hf:Xz fs name fs.length with
 |some i =>
  rw[hf]at h;obtain⟨h1,rfl⟩:=h;rw[ax (EI hs h1),EH hs h1]
 |none =>
  rw[hf]at h
  cases ht:ZI fs name with
  |false=>rfl
  |true =>
   obtain⟨h1,h2⟩:=ZH ht;exact absurd h2 (h _ h1)
def Xi(fs:List F)(f:F):Nat->List F×Bool
 |0=>([],false)
 |k+1 =>
  let s:=Xi fs f k
  let t:=if s.2=false/\VI (Nm fs k).name f.name=false then(s.1++[f],true) else s
  if(Nm fs k).name=f.name then t else(t.1++[Nm fs k],t.2)
def lN(fs:List F)(f:F):List F:=if(Xi fs f fs.length).2=true then(Xi fs f fs.length).1 else(Xi fs f fs.length).1++[f]
theorem YL(h:k<fs.length):fs.take (k+1)=fs.take k++[Nm fs k]:=by
 rw[List.take_succ_eq_append_getElem h,eP h]
theorem zj{fs:List F}{f:F}:∀{k:Nat},k<=VG fs f.name->Xi fs f k=(fs.take k,false)
 |0,_=>by simp[Xi]
 |k+1,h=>by
  have hl:=Yg fs f.name;have hb:=qh (fs:=fs) (name:=f.name) (i:=k) (by omega);have hne:(Nm fs k).name≠f.name:=by intro e;rw[e,jD]at hb;cases hb
  rw[Xi,zj (by omega)];simp only[hb,Bool.true_eq_false,and_false,if_false,ab hne];rw[YL (by omega)]
def th(fs:List F)(name:ByteArray):Nat:=if ZI fs name=true then 1 else 0
theorem EL{fs:List F}(hs:gq fs){f:F}:∀{k:Nat},VG fs f.name<k->k<=fs.length->Xi fs f k=(fs.take (VG fs f.name)++f :: (fs.take k).drop (VG fs f.name+th fs f.name),true)
 |0,h,_=>by omega
 |k+1,h,hk=>by
  rw[Xi];by_cases e:VG fs f.name=k
  ·rw[zj (by omega)];have hb:=vn (fs:=fs) (name:=f.name) (by omega);rw[e]at hb;simp only[hb,and_self,if_true]
   cases ht:ZI fs f.name with
   |true =>
    have h2:=(ZH ht).2;rw[e]at h2;rw[ax h2,th,ax ht,e,List.drop_of_length_le (by rw[List.length_take];omega)]
   |false =>
    have hne:(Nm fs k).name≠f.name:=EJ hs ht (by omega);rw[ab hne,th,ab (by rw[ht];decide),e,Nat.add_zero,YL (by omega),List.drop_append_of_le_length (by rw[List.length_take];omega),List.drop_of_length_le (by rw[List.length_take];omega)];simp
  ·rw[EL hs (by omega) (by omega)];have hgt:=qi hs (name:=f.name) (i:=k) (by omega) (by omega);have hne:(Nm fs k).name≠f.name:=by intro e9;rw[e9,jD]at hgt;cases hgt
   simp only[Bool.true_eq_false,false_and,if_false,ab hne];have hth:th fs f.name<=1:=by unfold th;split<;>omega
   rw[YL (by omega),List.drop_append_of_le_length (by rw[List.length_take];omega)];simp
theorem Nw(hs:gq fs)(f:F):lN fs f=V8 fs f:=by
 unfold lN V8;by_cases h:VG fs f.name<fs.length
 ·rw[EL hs h (Nat.le_refl _)];simp only[if_true,List.take_length];rfl
 ·have h2:VG fs f.name=fs.length:=by have:=Yg fs f.name;omega
  rw[zj (by omega)];have ht:ZI fs f.name=false:=dF (by omega);simp[h2,ht]
def Xj(fs:List F)(name:ByteArray):Nat->List F
 |0=>[]
 |k+1=>if(Nm fs k).name=name then Xj fs name k else Xj fs name k++[Nm fs k]
theorem EM{fs:List F}{name:ByteArray}:∀{k:Nat},k<=VG fs name->Xj fs name k=fs.take k
 |0,_=>by simp[Xj]
 |k+1,h=>by
  have hl:=Yg fs name;have hb:=qh (fs:=fs) (name:=name) (i:=k) (by omega);have hne:(Nm fs k).name≠name:=by intro e;rw[e,jD]at hb;cases hb
  rw[Xj,EM (by omega),ab hne,YL (by omega)]
theorem EN{fs:List F}(hs:gq fs){name:ByteArray}(ht:ZI fs name=true):∀{k:Nat},VG fs name<k->k<=fs.length->Xj fs name k=fs.take (VG fs name)++(fs.take k).drop (VG fs name+1)
 |0,h,_=>by omega
 |k+1,h,hk=>by
  rw[Xj];by_cases e:VG fs name=k
  ·have h2:=(ZH ht).2;rw[e]at h2;rw[EM (by omega),ax h2,e,List.drop_of_length_le (by rw[List.length_take];omega)];simp
  ·rw[EN hs ht (by omega) (by omega)];have hgt:=qi hs (name:=name) (i:=k) (by omega) (by omega);have hne:(Nm fs k).name≠name:=by intro e9;rw[e9,jD]at hgt;cases hgt
   rw[ab hne,YL (by omega),List.drop_append_of_le_length (by rw[List.length_take];omega)];simp
theorem Nx(hs:gq fs){name:ByteArray}(ht:ZI fs name=true):Xj fs name fs.length=fs.take (VG fs name)++fs.drop (VG fs name+1):=by
 rw[EN hs ht (ZH ht).1 (Nat.le_refl _),List.take_length]
end Ar
namespace Cd
theorem Ny{x:Int×(Nat->Int)}:∀k,(∀i,i<k->f i=g i)->wI f n x k=wI g n x k:=by
 intro k
 induction k with
 |zero=>intro _;rfl
 |succ k ih=>intro h;rw[wI,wI,ih (λi hi=>h i (by omega)),h k (by omega)]
theorem Nz(h:∀i,i<16->f i=g i):∀n,wO f n=wO g n:=by
 intro n
 induction n with
 |zero=>rfl
 |succ n ih=>rw[wO,wO,ih,Ny 16 h]
theorem NA(h:∀i,i<16->f i=g i):VM f=VM g:=by rw[VM,VM,Nz h]
theorem NB{word:Int} :∀k,(∀i,i<k->f i=g i)->aat f ws n word k=aat g ws n word k:=by
 intro k
 induction k with
 |zero=>intro _;rfl
 |succ k ih=>intro h;rw[aat,aat,ih (λi hi=>h i (by omega)),h k (by omega)]
theorem NC(h:∀i,i<16->f i=g i):∀m n word a,XF f ws b m n word a=XF g ws b m n word a:=by
 intro m
 induction m with
 |zero=>intro _ _ _;rfl
 |succ m ih=>intro n word a;rw[XF,XF,ih,jK,jK,NB 16 h]
theorem ND(h:∀i,i<16->f i=g i)(a:Nat):Yt f b a=Yt g b a:=by rw[Yt,Yt,NA h,NC h]
theorem gA(h:∀i,i<16->f i=g i):∀k,bZ f b k=bZ g b k:=by
 intro k
 induction k with
 |zero=>rfl
 |succ k ih=>rw[bZ,bZ,ih];simp only[ND h]
theorem NF :∀k,(∀i,i<k->f i=g i)->Wp f k=Wp g k:=by
 intro k
 induction k with
 |zero=>intro _;rfl
 |succ k ih=>intro h;rw[Wp,Wp,ih (λi hi=>h i (by omega)),h k (by omega)]
theorem NG(h:∀i,i<16->f i=g i):Wj f=Wj g:=by
 have e:Wk f 15 16↔Wk g 15 16:=⟨λh9 i hi=>by rw[<-h i hi];exact h9 i hi,λh9 i hi=>by rw[h i hi];exact h9 i hi⟩
 rw[Wj,Wj,NF 16 h];by_cases h1:Wk f 15 16
 ·rw[ax h1,ax (e.1 h1)]
 ·rw[ab h1,ab (λh9=>h1 (e.2 h9))]
theorem NH(h:∀i,i<16->f i=g i):VP f b n=VP g b n:=by
 rw[VP,VP,NG h,gA h]
theorem NI :∀k,(∀i,i<k->f (at8 s i/16)≠0/\f (at8 s i%16)≠0)->∃bs,Yd f s k=some bs:=by
 intro k
 induction k with
 |zero=>intro _;exact⟨[],rfl⟩
 |succ k ih =>
  intro h;obtain⟨bs,e⟩:=ih (λi hi=>h i (by omega));have h1:=h k (by omega);exact⟨_,xX e (λh9=>h9.elim h1.1 h1.2)⟩
end Cd
namespace Bk
theorem NJ(s:ByteArray):∀k i,bH s k i<=bH s (k+1) i:=by
 intro k i;rw[bH];unfold upd;split
 ·rename_i h
  split
  ·rename_i h2;rw[<-h2,h];omega
  ·rw[h];omega
 ·split
  ·rename_i h2;rw[h2];omega
  ·exact Int.le_refl _
theorem EO(s:ByteArray)(k i:Nat):∀j,bH s k i<=bH s (k+j) i:=by
 intro j
 induction j with
 |zero=>exact Int.le_refl _
 |succ j ih=>exact Int.le_trans ih (NJ s (k+j) i)
theorem NK(s:ByteArray)(k:Nat):1<=bH s (k+1) (Cd.at8 s k/16)/\1<=bH s (k+1) (Cd.at8 s k%16):=by
 have h1:=(oI s k (Cd.at8 s k/16)).1;have h2:=(oI s k (Cd.at8 s k%16)).1;rw[bH];unfold upd;refine⟨?_,?_⟩
 ·split
  ·split<;>omega
  ·rw[ax rfl];omega
 ·rw[ax rfl];split<;>omega
theorem EP(h:k<s.size):1<=hv s (Cd.at8 s k/16)/\1<=hv s (Cd.at8 s k%16):=by
 have h1:=NK s k;have h2:=EO s (k+1) (Cd.at8 s k/16) (s.size-(k+1));have h3:=EO s (k+1) (Cd.at8 s k%16) (s.size-(k+1));rw[show k+1+(s.size-(k+1))=s.size by omega]at h2 h3;unfold hv;omega
theorem NL(h0:s.size≠0)(h:s.size<=1024):(VH (hv s)).2=0:=by
 unfold VH;rw[ab (λh9=>h9 (rV s h))];have h1:=(EP (s:=s) (k:=0) (by omega)).1;have h2:=((Cd.uW (hv s) 16).1 (Cd.at8 s 0/16) (by have:=Xf s 0;omega) (by omega)).1;rw[ab h2];split<;>rfl
theorem NM(h0:s.size≠0)(h:s.size<=1024):(VO (VH (hv s)).1 s).2=0:=by
 obtain⟨hc,hz,_⟩:=aaw (hv s) (NL h0 h)
 have hn:∀i,i<16->¬(0<hv s i/\(VH (hv s)).1 i=0):=by
  cases hq:aap (VH (hv s)).1 (hv s) 16 with
  |none=>rw[Jp hc (rV s h) hq]at hz;exact absurd hz (by decide)
  |some n=>exact(Ee 16 n hq).1
 obtain⟨bs,e⟩:=NI (f:=(VH (hv s)).1) (s:=s) s.size (λi hi=>by
  have h1:=EP hi;have h2:=Xf s i
  exact⟨λh9=>hn _ (by omega) ⟨by omega,h9⟩,λh9=>hn _ (by omega) ⟨by omega,h9⟩⟩)
 rw[VO,ab (λh9=>h9 hc),ab (by omega),e]
theorem NN(f:Nat->Int)(h:Wk f 15 16)(j:Nat)(hj:j<8):(Cd.at8 ⟨(XG f).toArray⟩ j:Int)=f (2*j)*16+f (2*j+1):=by
 have h1:=h (2*j) (by omega);have h2:=h (2*j+1) (by omega);unfold Cd.at8 XG WK;simp only[List.getElem?_map,List.getElem?_range hj,Option.map_some,Option.getD_some];rw[UInt8.toNat_ofNat'];omega
theorem NO(f:Nat->Int)(h:Wk f 15 16):∀i,i<16->Wa ⟨(XG f).toArray⟩ i=f i:=by
 intro i hi;have h1:=NN f h (i/2) (by omega);have h2:=h (2*(i/2)) (by omega);have h3:=h (2*(i/2)+1) (by omega);unfold Wa Wm;rw[ax (by omega)];split
 ·rename_i h4
  rw[show 2*(i/2)=i by omega]at*;omega
 ·rename_i h4
  rw[show 2*(i/2)+1=i by omega]at*;omega
theorem NP(a b:ByteArray):(a++b).extract 0 a.size=a:=by
 apply ZN;simp[ByteArray.data_extract,ByteArray.data_append,Array.toList_extract];rw[List.take_of_length_le (by rw[Xw];exact nl _)]
theorem zk(a b:ByteArray):(a++b).extract a.size (a++b).size=b:=by
 apply ZN;simp[ByteArray.data_extract,ByteArray.data_append,Array.toList_extract];rw[List.drop_of_length_le (by rw[Xw];exact nl _),List.take_nil,List.nil_append,List.take_of_length_le (by rw[Xw];exact nl _)]
theorem NQ(f:Nat->Int):(⟨(XG f).toArray⟩:ByteArray).size=8:=by
 show(XG _).toArray.size=_;simp[XG,YI]
theorem NR(h0:s.size≠0)(h:s.size<=1024):WB (enc s)=(s,0):=by
 have hL:=yQ (rV s h);have hw:=NM h0 h;unfold enc;generalize (VH (hv s)).1=L at*;rw[ByteArray.append_assoc];have e8:=NQ L;have x1:=NP ⟨(XG L).toArray⟩ ((⟨(VB s.size).toArray⟩:ByteArray)++(VO L s).1);have x2:=zk ⟨(XG L).toArray⟩ ((⟨(VB s.size).toArray⟩:ByteArray)++(VO L s).1);have x3:=zk ⟨(VB s.size).toArray⟩ (VO L s).1;rw[e8]at x1 x2
 have hf:Zt ((⟨(VB s.size).toArray⟩:ByteArray)++(VO L s).1).data.toList=some (s.size,(VB s.size).length):=by
  rw[Xo];exact Ym s.size _ (by omega)
 have e9:(⟨(VB s.size).toArray⟩:ByteArray).size=(VB s.size).length:=by
  show(VB s.size).toArray.size=_;simp
 rw[e9]at x3;rw[yR (n:=s.size) (k:=(VB s.size).length) (by rw[ByteArray.size_append,e8];omega) (by rw[x2];exact hf),x1,x2,x3,NH (NO L hL),KZ hw,ax rfl]
theorem NS(xs:List ByteArray):∀n,(dU xs n).size<=(XH xs 0).size:=by
 intro n
 induction n with
 |zero=>exact nl _
 |succ n ih =>
  rw[dU];split<;>omega
theorem NT(xs:List ByteArray)(h:xs ≠ []):∀n,n<=xs.length->dU xs n∈xs:=by
 intro n
 induction n with
 |zero =>
  intro _
  cases xs with
  |nil=>exact absurd rfl h
  |cons x xs=>exact List.mem_cons_self
 |succ n ih =>
  intro hn;rw[dU];split
  ·have e:XH xs n=xs[n]'(by omega):=by rw[XH,List.getD_eq_getElem?_getD,List.getElem?_eq_getElem (by omega)];rfl
   rw[e];exact gM _
  ·exact ih (by omega)
theorem zl(x:UInt8)(b:ByteArray):Cd.at8 ((⟨#[x]⟩:ByteArray)++b) 0=x.toNat:=by
 unfold Cd.at8;rw[Xo];rfl
theorem zm(x:UInt8)(b:ByteArray):((⟨#[x]⟩:ByteArray)++b).extract 1 ((⟨#[x]⟩:ByteArray)++b).size=b:=zk ⟨#[x]⟩ b
theorem Zy(x:UInt8)(b:ByteArray):((⟨#[x]⟩:ByteArray)++b).size=b.size+1:=by
 rw[ByteArray.size_append];show 1+_=_;omega
theorem NU(hd:dict.size<=256)(ht:text.size<=512):Wv dict (Ww dict text)=(text,0):=by
 obtain⟨h1,h2⟩:=vc dict text hd ht;unfold Wv;rw[Ww,Es h1];simp only[h2]
theorem zn(hd:dict.size<=256)(ht:text.size<=512):(fD dict text).2=0/\WH dict (fD dict text).1=(text,0)/\(fD dict text).1.size<=text.size+1:=by
 have e:fD dict text=(dU (fC text (Ww dict text)) (fC text (Ww dict text)).length,0):=ab (by omega);rw[e];have hp:=NU hd ht;have hz:=yZ hd ht;generalize Ww dict text=s at*;have hne:fC text s ≠ []:=by unfold fC;split<;>simp
 have hx:XH (fC text s) 0=(⟨#[0]⟩:ByteArray)++text:=by unfold fC;split<;>rfl
 have hf:=NS (fC text s) (fC text s).length;rw[hx,Zy]at hf;refine⟨rfl,?_,hf⟩;have hm:=NT (fC text s) hne _ (nl _);simp only;generalize dU (fC text s) (fC text s).length=b at*
 have u0:WH dict ((⟨#[0]⟩:ByteArray)++text)=(text,0):=by
  rw[WH,ab (by omega),ab (by rw[Zy];omega),zl,ax (by decide),zm,jo,ab (by omega)]
 have u1:WH dict ((⟨#[1]⟩:ByteArray)++s)=(text,0):=by
  rw[WH,ab (by omega),ab (by rw[Zy];omega),zl,ab (by decide),ax (by decide),zm,hp]
 have u2:s.size≠0->WH dict ((⟨#[2]⟩:ByteArray)++enc s)=(text,0):=by
  intro h0;rw[WH,ab (by omega),ab (by rw[Zy];omega),zl,ab (by decide),ab (by decide),ax (by decide),zm,NR h0 hz,ax rfl,hp]
 unfold fC at hm;by_cases h0:s.size=0
 ·rw[ax h0]at hm;simp only[List.mem_cons,List.not_mem_nil,or_false]at hm;rcases hm with rfl|rfl
  ·exact u0
  ·exact u1
 ·rw[ab h0]at hm;simp only[List.mem_cons,List.not_mem_nil,or_false]at hm;rcases hm with rfl|rfl|rfl
  ·exact u0
  ·exact u1
  ·exact u2 h0
end Bk
namespace Ar
def mw(fs:List F):Prop:=fs.Pairwise λf g=>VI f.name g.name=true
theorem sy :gq fs↔mw fs:=by
 unfold gq mw;rw[List.pairwise_iff_getElem];constructor
 ·intro h i j hi hj hij;have:=h i j hij hj
  rwa [eP hi,eP hj]at this
 ·intro h i j hij hj;rw[eP (by omega),eP hj];exact h i j (by omega) hj hij
theorem my :WW a a.files.length=true↔(∀f∈a.files,bI f.name=true/\dR a.aa f=true)/\mw a.files:=by
 constructor
 ·intro h;refine⟨λf hf=>?_,sy.1 (vm h)⟩;obtain⟨i,hi,rfl⟩:=List.mem_iff_getElem.1 hf;have:=Y9 (Z0 h hi);rw[eP hi]at this;exact⟨this.1,this.2.2⟩
 ·rintro⟨h1,h2⟩;refine EF λi hi=>?_
  have h3:=h1 _ (gM hi);simp only[dQ,Bool.and_eq_true,Bool.or_eq_true,decide_eq_true_iff];refine⟨⟨by rw[eP hi];exact h3.1,?_⟩,by rw[eP hi];exact h3.2⟩;by_cases e:i=0
  ·exact .inl e
  ·exact .inr (sy.2 h2 (i-1) i (by omega) hi)
theorem VV :Vz a=0↔W6 a=false/\WW a a.files.length=true:=by
 unfold Vz
 cases W6 a<;>cases WW a a.files.length<;>simp
theorem Xk(h:Vz a=0):gq a.files:=vm (VV.1 h).2
theorem ev{xs:List ByteArray}:∀{k:Nat},WC xs k=none↔∀i,i<k->(VA xs i).size<=256
 |0=>by simp[WC]
 |k+1=>by
  rw[WC];have ih:=ev (xs:=xs) (k:=k)
  cases h:WC xs k with
  |some i =>
   simp only[reduceCtorEq,false_iff];intro h2;rw[ih.2 (λi hi=>h2 i (by omega))]at h;cases h
  |none =>
   have h1:=ih.1 h;simp only;by_cases hs:256<(VA xs k).size
   ·rw[ax hs];simp only[reduceCtorEq,false_iff];intro h2;have:=h2 k (by omega);omega
   ·rw[ab hs];simp only[true_iff];intro i hi;by_cases e:i=k
    ·subst e;omega
    ·exact h1 i (by omega)
theorem NV :WC xs xs.length=none↔∀d∈xs,d.size<=256:=by
 rw[ev];constructor
 ·intro h d hd;obtain⟨i,hi,rfl⟩:=List.mem_iff_getElem.1 hd;have:=h i hi
  rwa [show VA xs i=xs[i] by simp[VA,hi]]at this
 ·intro h i hi;rw[show VA xs i=xs[i] by simp[VA,hi]];exact h _ (gM hi)
theorem Zj :W6 a=false↔a.aa.length<=4/\a.files.length<=12/\∀d∈a.aa,d.size<=256:=by
 rw[<-NV,W6,Bool.or_eq_false_iff,decide_eq_false_iff_not]
 cases h:WC a.aa a.aa.length<;>simp<;>omega
theorem XJ(h:W6 a=false)(n:Int):(V5 a.aa n).size<=256:=by
 have h3:=(Zj.1 h).2.2;unfold V5;split
 ·show 0<=_;omega
 ·generalize (n-1).toNat=m;by_cases hi:m<a.aa.length
  ·rw[show VA a.aa m=a.aa[m] by simp[VA,hi]];exact h3 _ (gM hi)
  ·rw[show VA a.aa m=⟨#[]⟩ by simp[VA,show a.aa.length<=m by omega]];show 0<=_;omega
theorem ER(hs:gq fs){f g:F}:g∈V8 fs f↔g=f\/(g∈fs/\g.name≠f.name):=by
 unfold V8;rw[List.mem_append,List.mem_cons];constructor
 ·rintro(h|h|h)
  ·right
   obtain⟨i,hi,rfl⟩:=List.mem_iff_getElem.1 h;rw[List.length_take]at hi;rw[List.getElem_take];refine⟨gM _,λe=>?_⟩;have:=qh (fs:=fs) (name:=f.name) (i:=i) (by omega);rw[eP (by omega),e,jD]at this;cases this
  ·exact .inl h
  ·right
   obtain⟨i,hi,rfl⟩:=List.mem_iff_getElem.1 h;rw[List.length_drop]at hi;rw[List.getElem_drop];refine⟨gM _,λe=>?_⟩
   cases ht:ZI fs f.name with
   |false =>
    have:=EJ hs ht (i:=VG fs f.name+(if ZI fs f.name=true then 1 else 0)+i) (by omega);rw[eP (by omega)]at this;exact this e
   |true =>
    rw[ht]at hi;simp only[if_true]at hi;have:=qi hs (name:=f.name) (i:=VG fs f.name+1+i) (by omega) (by omega);rw[eP (by omega)]at this;simp only[ht,if_true]at e;rw[e,jD]at this;cases this
 ·rintro(h|⟨h,hne⟩)
  ·exact .inr (.inl h)
  ·obtain⟨i,hi,rfl⟩:=List.mem_iff_getElem.1 h;by_cases h1:i<VG fs f.name
   ·left
    exact List.mem_iff_getElem.2 ⟨i,by rw[List.length_take];omega,by rw[List.getElem_take]⟩
   ·right;right
    have hth:(if ZI fs f.name=true then 1 else 0)<=i-VG fs f.name:=by
     cases ht:ZI fs f.name with
     |false=>simp
     |true =>
      simp only[if_true];have h2:=(ZH ht).2;by_cases e:i=VG fs f.name
      ·subst e;rw[eP hi]at h2;exact absurd h2 hne
      ·omega
    refine List.mem_iff_getElem.2 ⟨i-VG fs f.name-(if ZI fs f.name=true then 1 else 0),by rw[List.length_drop];omega,?_⟩;rw[List.getElem_drop]
    congr 1
    omega
theorem NW(hs:gq fs)(f:F):gq (V8 fs f):=by
 rw[sy];have hp:=sy.1 hs;unfold V8 mw;rw[List.pairwise_append]
 have hlow:∀g∈fs.take (VG fs f.name),VI g.name f.name=true:=by
  intro g hg;obtain⟨i,hi,rfl⟩:=List.mem_iff_getElem.1 hg;rw[List.length_take]at hi;rw[List.getElem_take,<-eP];exact qh (by omega)
 have hhigh:∀g∈fs.drop (VG fs f.name+if ZI fs f.name=true then 1 else 0),VI f.name g.name=true:=by
  intro g hg;obtain⟨i,hi,rfl⟩:=List.mem_iff_getElem.1 hg;rw[List.length_drop]at hi;rw[List.getElem_drop,<-eP]
  cases ht:ZI fs f.name with
  |true =>
   rw[ht]at hi;simp only[if_true]at hi |-
   exact qi hs (by omega) (by omega)
  |false =>
   rw[ht]at hi;simp only[Bool.false_eq_true,if_false,Nat.add_zero]at hi |-
   by_cases e:i=0
   ·subst e;exact Nu (by omega) ht
   ·exact qi hs (by omega) (by omega)
 refine⟨hp.sublist (List.take_sublist _ _),List.pairwise_cons.2 ⟨hhigh,hp.sublist (List.drop_sublist _ _)⟩,?_⟩;intro g hg k hk;rcases List.mem_cons.1 hk with rfl|hk
 ·exact hlow g hg
 ·exact Yx (hlow g hg) (hhigh k hk)
theorem ES(fs:List F)(f:F):(V8 fs f).length=if ZI fs f.name=true then fs.length else fs.length+1:=by
 unfold V8;have:=Yg fs f.name;rw[List.length_append,List.length_cons,List.length_take,List.length_drop]
 cases ht:ZI fs f.name with
 |true=>have:=(ZH ht).1;simp;omega
 |false=>simp;omega
theorem NX(h:W6 a=false)(name text:ByteArray)(dict:Int)(ht:text.size<=512):Wd a.aa (VN a.aa name text dict)=(text,0):=(zn (XJ h dict) ht).2.1
theorem ET(h:W6 a=false)(name text:ByteArray)(dict:Int)(ht:text.size<=512)(hd:VY a.aa dict=true):dR a.aa (VN a.aa name text dict)=true:=by
 unfold dR;rw[NX h name text dict ht];simp only[Bool.and_eq_true];exact⟨hd,al ⟨by trivial,rfl,rfl⟩⟩
theorem zo{dict:Int}(h:aO a name text dict=0) :
 Vz a=0/\bI name=true/\VY a.aa dict=true/\text.size<=512/\(ZI a.files name=true\/a.files.length≠12):=by
 unfold aO at h;by_cases h1:Vz a=0
 ·rw[ab (λh9=>h9 h1)]at h
  cases h2:bI name with
  |false=>rw[h2]at h;simp at h
  |true =>
   cases h3:VY a.aa dict with
   |false=>rw[h2,h3]at h;simp at h
   |true =>
    rw[h2,h3]at h;simp only[Bool.true_eq_false,if_false]at h;split at h
    ·cases h
    ·rename_i h4
     refine⟨h1,by simp,by simp,by omega,?_⟩
     cases h5:ZI a.files name with
     |true=>exact .inl rfl
     |false=>right;intro e;exact h4 (.inr ⟨h5,e⟩)
 ·rw[ax h1]at h;exact absurd h h1
theorem aa3{dict:Int}(h:aO a name text dict=0):bW a name text dict=⟨a.aa,V8 a.files (VN a.aa name text dict)⟩:=ax h
theorem NY{dict:Int}(h:aO a name text dict=0):Vz (bW a name text dict)=0:=by
 obtain⟨h1,h2,h3,h4,h5⟩:=zo h;obtain⟨hm,hg⟩:=VV.1 h1;have hs:=vm hg;rw[aa3 h,VV];obtain⟨m1,m2,m3⟩:=Zj.1 hm;have hp:=my.1 hg;refine⟨Zj.2 ⟨m1,?_,m3⟩,my.2 ⟨?_,sy.1 (NW hs _)⟩⟩
 ·show(V8 a.files (VN a.aa name text dict)).length<=12;rw[ES];show(if ZI a.files name=true then a.files.length else a.files.length+1)<=12;split<;>rcases h5 with h5|h5<;>first|omega|simp_all
 ·intro f hf;rcases(ER hs).1 hf with rfl|⟨hf,_⟩
  ·exact⟨h2,ET hm name text dict h4 h3⟩
  ·exact hp.1 f hf
theorem NZ(hs:gq fs){name:ByteArray}(ht:ZI fs name=true){g:F}:g∈fs.take (VG fs name)++fs.drop (VG fs name+1)↔g∈fs/\g.name≠name:=by
 have h:=ER (fs:=fs) hs (f:=⟨name,0,0,0,⟨#[]⟩⟩) (g:=g);unfold V8 at h;simp only[ht,if_true,List.mem_append,List.mem_cons]at h;rw[List.mem_append];constructor
 ·intro h9;have:(g∈fs.take (VG fs name)\/g=⟨name,0,0,0,⟨#[]⟩⟩\/g∈fs.drop (VG fs name+1)):=by rcases h9 with h9|h9<;>simp[h9]
  rcases h.1 this with rfl|h8
  ·exfalso
   have hlow:∀k∈fs.take (VG fs name),k.name≠name:=by
    intro k hk;obtain⟨i,hi,rfl⟩:=List.mem_iff_getElem.1 hk;rw[List.length_take]at hi;rw[List.getElem_take,<-eP];intro e;have:=qh (fs:=fs) (name:=name) (i:=i) (by omega);rw[e,jD]at this;cases this
   have hhigh:∀k∈fs.drop (VG fs name+1),k.name≠name:=by
    intro k hk;obtain⟨i,hi,rfl⟩:=List.mem_iff_getElem.1 hk;rw[List.length_drop]at hi;rw[List.getElem_drop,<-eP];intro e;have:=qi hs (name:=name) (i:=VG fs name+1+i) (by omega) (by omega);rw[e,jD]at this;cases this
   rcases h9 with h9|h9
   ·exact hlow _ h9 rfl
   ·exact hhigh _ h9 rfl
  ·exact h8
 ·rintro⟨h1,h2⟩;rcases h.2 (.inr ⟨h1,h2⟩) with h3|h3|h3
  ·exact .inl h3
  ·subst h3;exact absurd rfl h2
  ·exact .inr h3
theorem zq(h:VE a name=0):Vz a=0/\ZI a.files name=true:=by
 unfold VE at h;by_cases h1:Vz a=0
 ·rw[ab (λh9=>h9 h1)]at h
  cases h2:ZI a.files name with
  |true=>exact⟨h1,rfl⟩
  |false=>rw[h2]at h;simp at h
 ·rw[ax h1]at h;exact absurd h h1
theorem EU(h:VE a name=0):Wf a name=⟨a.aa,a.files.take (VG a.files name)++a.files.drop (VG a.files name+1)⟩:=ax h
theorem N0(h:VE a name=0):Vz (Wf a name)=0:=by
 obtain⟨h1,ht⟩:=zq h;obtain⟨hm,hg⟩:=VV.1 h1;have hs:=vm hg;obtain⟨m1,m2,m3⟩:=Zj.1 hm;have hp:=my.1 hg;rw[EU h,VV];refine⟨Zj.2 ⟨m1,?_,m3⟩,my.2 ⟨λf hf=>hp.1 f ((NZ hs ht).1 hf).1,?_⟩⟩
 ·show(List.take _ _++List.drop _ _).length<=12;rw[List.length_append,List.length_take,List.length_drop];omega
 ·refine hp.2.sublist ?_
  conv=>rhs;rw[<-List.take_append_drop (VG a.files name) a.files]
  refine List.Sublist.append (List.Sublist.refl _) ?_;rw[<-List.drop_drop];exact List.drop_sublist _ _
end Ar
theorem toList_inj{a:ByteArray}(h:a.toList=b.toList):a=b:=by
 rw[ByteArray.toList_eq,ByteArray.toList_eq]at h
 cases a;cases b
 simpa using h
theorem N2(a b:ByteArray):(a.toList==b.toList)=decide (a=b):=by
 by_cases h:a=b
 ·subst h;simp
 ·rw[decide_eq_false h,Bool.eq_false_iff];intro e;exact h (toList_inj (by simpa using e))
theorem N5(p t:ByteArray)(w:World)(hp:p.size<=140737488355328)(ht:t.size<=140737488355328) :
 CB 128 #[.string p,.string t] w (.bool (Tr.st p t)):=by
 obtain⟨r,hr⟩:∃r,Tr.st p t=r:=⟨_,rfl⟩
 rw[hr];have Hr:Hid (dM p t (t.size+1)=r):=hr;clear hr;go_enter func128,ntmps128
 go_wp2_with fail
 go_loopw [5] (λi wr=>∃k:Nat,k<=t.size+1/\i=.int .i64 k/\Hid (dM p t k=false)/\ae w wr) (λi _=>t.size+1-(intOf i).toNat)
 case atStart=>exact⟨0,by omega,rfl,rfl,bR _ _⟩
 case round =>
  obtain⟨k,hk2,rfl,HL,B1⟩:=hrel
  obtain⟨J,hJ⟩:∃J,k+p.size=J:=⟨_,rfl⟩
  have m1:(k:Int)+(p.size:Int)=(J:Int):=by omega
  have w1:IntKind.i64.wrap (J:Int)=(J:Int):=IntWalk.i64_in _ ⟨by omega,by omega⟩;by_cases hlt:J<=t.size
  ·have d1:=al (by omega:(J:Int)<=(t.size:Int));have N6:(J:Int)<=(t.size:Int):=by omega
   have Vf:(k:Int)<=(J:Int):=by omega
   have N7:k<=J:=by omega
   have hkt:k<t.size+1:=by omega
   have HS:=N2 (t.extract k J) p
   obtain⟨S,hS⟩:∃S,t.extract k J=S:=⟨_,rfl⟩
   rw[hS]at HS;by_cases he:S=p
   ·have HN:Hid (dM p t (k+1)=true):=by show _=_;rw[dM,hJ,hS,decide_eq_true ⟨hlt,he⟩,Bool.or_true]
    have HR:Hid (true=r):=by
     have h9:=Tr.IT HN.out (t.size+1-(k+1));rw[show k+1+(t.size+1-(k+1))=t.size+1 by omega]at h9;exact h9.symm.trans Hr.out
    rw[decide_eq_true he]at HS;clear HN he hJ Hr HL;go_wp2_with fail
    go_ret
    exact⟨congrArg (λx=>Ending.returned (Value.bool x)) HR.out,B1⟩
   ·have HN:Hid (dM p t (k+1)=false):=by show _=_;rw[dM,hJ,hS,HL.out,decide_eq_false (λh9=>he h9.2),Bool.or_false]
    rw[decide_eq_false he]at HS;clear he hJ HL;go_wp2_with fail
    go_roundw
    case rel=>exact⟨k+1,by omega,by go_num,HN,B1⟩
    case measure=>simp[intOf];omega
  ·have d1:=dF (by omega:¬((J:Int)<=(t.size:Int)));have N6:(t.size:Int)<(J:Int):=by omega
   have HR:Hid (false=r):=by
    have h9:=wJ (p:=p) (t:=t) (k:=k) (by omega) (t.size+1-k);rw[show k+(t.size+1-k)=t.size+1 by omega]at h9;exact(HL.out.symm.trans h9.symm).trans Hr.out
   clear Hr HL hJ;go_wp2_with fail
   go_ret
   exact⟨congrArg (λx=>Ending.returned (Value.bool x)) HR.out,B1⟩
namespace Tr
theorem sA(t p:ByteArray)(hp:0<p.size)(j:Nat):Lib.occAt t.data.toList p.data.toList j=true↔j+p.size<=t.size/\t.extract j (j+p.size)=p:=by
 have hl:p.data.toList.length=p.size:=by simp
 have ht:t.data.toList.length=t.size:=by simp
 have he:(t.extract j (j+p.size)).data.toList=(t.data.toList.drop j).take p.size:=by
  rw[ByteArray.data_extract,Array.toList_extract,List.extract_eq_take_drop];congr 1;omega
 rw[Lib.occAt,List.isPrefixOf_iff_prefix,List.prefix_iff_eq_take,hl];constructor
 ·intro h;have h2:=congrArg List.length h;rw[List.length_take,List.length_drop,hl,ht]at h2;refine⟨by omega,?_⟩;apply uk;rw[ByteArray.toList_eq,ByteArray.toList_eq,he];exact h.symm
 ·rintro⟨_,h⟩;rw[<-he,h]
theorem N8(t p:ByteArray)(hp:0<p.size)(i:Nat)(hi:i+p.size<=t.size)(h:t.extract i (i+p.size)=p):decide (Lib.index t.data.toList p.data.toList=(i:Int))=!dM p t i:=by
 have ht:t.data.toList.length=t.size:=by simp
 have ho:=(sA t p hp i).2 ⟨hi,h⟩;rcases Lib.index_spec t.data.toList p.data.toList with⟨h1,h2⟩|⟨k,h1,h2,h3,h4⟩
 ·have:=h2 i (by omega);rw[ho]at this;cases this
 ·cases hs:dM p t i with
  |true =>
   obtain⟨j,hj,hj2⟩:=uj.1 hs
   have hk:k<=j:=by
    apply Nat.le_of_not_lt;intro hlt;have:=h4 j hlt;rw[(sA t p hp j).2 hj2]at this;cases this
   rw[h1];exact dF (by omega)
  |false =>
   have hk:¬k<i:=λhlt=>by
    have:=uj.2 ⟨k,hlt,(sA t p hp k).1 h3⟩;rw[hs]at this;cases this
   have hk2:¬i<k:=λhlt=>by have:=h4 i hlt;rw[ho]at this;cases this
   rw[h1];exact al (by omega)
theorem N9(t p:ByteArray)(hp:0<p.size):Lib.contains t.data.toList p.data.toList=st p t:=by
 have ht:t.data.toList.length=t.size:=by simp
 unfold Lib.contains;rcases Lib.index_spec t.data.toList p.data.toList with⟨h1,h2⟩|⟨k,h1,h2,h3,h4⟩
 ·rw[h1]
  cases hs:st p t with
  |false=>rfl
  |true =>
   obtain⟨j,hj,hj2⟩:=oo.1 hs;have:=h2 j (by omega);rw[(sA t p hp j).2 ⟨hj,hj2⟩]at this;cases this
 ·rw[h1,oo.2 ⟨k,(sA t p hp k).1 h3⟩];exact al (by omega)
def Xq(xs:List ByteArray)(k i:Nat)(q:ByteArray):Nat:=iJ xs q k+(if dM q (VA xs k) i=true then 1 else 0)
theorem aaz(xs:List ByteArray)(k:Nat)(q:ByteArray):Xq xs k 0 q=iJ xs q k:=by simp[Xq,dM]
theorem EW(hq:q.size=4)(hi:(VA xs k).size<=i+3):Xq xs k i q=iJ xs q (k+1):=by
 rw[Xq,iJ,st];by_cases h:i<=(VA xs k).size+1
 ·have:=wJ (p:=q) (t:=VA xs k) (k:=i) (by omega) ((VA xs k).size+1-i);rw[show i+((VA xs k).size+1-i)=(VA xs k).size+1 by omega]at this;rw[this]
 ·have:=wJ (p:=q) (t:=VA xs k) (k:=(VA xs k).size+1) (by omega) (i-((VA xs k).size+1));rw[show(VA xs k).size+1+(i-((VA xs k).size+1))=i by omega]at this;rw[this]
theorem Oa{t:ByteArray}(hq:q.size=4)(hne:q≠Y3 t i):dM q t (i+1)=dM q t i:=by
 rw[dM,decide_eq_false,Bool.or_false];rintro⟨_,h⟩;rw[hq]at h;exact hne h.symm
theorem zu(hq:q.size=4)(hne:q≠Y3 (VA xs k) i):Xq xs k (i+1) q=Xq xs k i q:=by
 rw[Xq,Xq,Oa hq hne]
theorem EX(h:dM (Y3 (VA xs k) i) (VA xs k) i=true){q:ByteArray}(hq:q.size=4):Xq xs k (i+1) q=Xq xs k i q:=by
 by_cases hne:q=Y3 (VA xs k) i
 ·subst hne;rw[Xq,Xq,h,dM,h,Bool.true_or]
 ·exact zu hq hne
theorem EY(hi:i<(VA xs k).size-3)(h:dM (Y3 (VA xs k) i) (VA xs k) i=false):Xq xs k (i+1) (Y3 (VA xs k) i)=Xq xs k i (Y3 (VA xs k) i)+1:=by
 have h4:=qW hi;have:dM (Y3 (VA xs k) i) (VA xs k) (i+1)=true:=uj.2 ⟨i,by omega,by omega,by rw[h4];rfl⟩;rw[Xq,Xq,h,this];simp
theorem EZ(xs:List ByteArray)(k i:Nat)(q:ByteArray):Xq xs k i q<=k+1:=by
 have:=Y6 xs q k;rw[Xq];split<;>omega
end Tr
end Go.Proofs.YtbjbjbpgmojcbacGreatDoor
