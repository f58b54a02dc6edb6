/- A part of the proof: what it leans on. -/
import Derived.Laws.StructEq
import Derived.Test.YtbjbjbpgmojcbabGreatLsBook05
set_option maxRecDepth 4000
set_option maxHeartbeats 2000000
namespace Go.Proofs.YtbjbjbpgmojcbabGreat
open Go.RowKit
namespace Cd
theorem Zum (bs:List Bool) (k:Nat) (h:k<(str bs).size):((str bs)[k]).toNat=48+bq bs k:=by
 have hl:k<bs.length:=by rw [Zad] at h;exact h
 have e:(str bs)[k]=chr (bs[k]):=by
  show (bs.map chr).toArray[k]'(by simpa using hl)=_;simp
 rw [e,bq,List.getD_eq_getElem?_getD,List.getElem?_eq_getElem hl];show _=48+bv bs[k]
 cases bs[k] <;> rfl
theorem ZtZ (bs:List Bool) (p i:Nat):bq (bs++List.replicate p false) i=bq bs i:=by
 by_cases h:i<bs.length
 ·exact ZiX h
 ·rw [Zba bs (by omega)]
  obtain ⟨j,rfl⟩:∃ j,i=bs.length+j:=⟨i - bs.length,by omega⟩
  rw [ZfN,bq,List.getD_eq_getElem?_getD];by_cases h2:j<p
  ·rw [List.getElem?_replicate,if_pos h2];rfl
  ·rw [List.getElem?_replicate,if_neg h2];rfl
def vb (bs:List Bool) (a:Nat):Nat->Nat
 | 0=>0
 | r+1=>2*vb bs a r+bq bs (a+r)
theorem Zvh (bs:List Bool) (a:Nat):∀ r,vb bs a r<2 ^ r:=by
 intro r
 induction r with
 | zero=>simp [vb]
 | succ r ih=>have:=ZaI bs (a+r);rw [vb,Nat.pow_succ];omega
theorem Zvs (bs:List Bool) (a:Nat) {r:Nat} (h:r<=8):vb bs a r<=255:=by
 have h1:=Zvh bs a r;have h2:2 ^ r<=2 ^ 8:=Nat.pow_le_pow_right (by omega) h;omega
theorem Zup (bs:List Bool) (j:Nat):vb bs (8*j) 8=byt bs j:=by
 simp only [vb,byt,Nat.add_zero];omega
theorem ZrT (bs:List Bool) {j:Nat} (h:j<(bs.length+7) / 8):(pk bs).take (j+1)=(pk bs).take j++[UInt8.ofNat (byt bs j)]:=by
 rw [List.take_add_one,ZkK bs h];rfl
end Cd
theorem Zhy (f:Nat->Int) (s:ByteArray) (w:World) (h0:Cd.chk f=0) (hs:s.size<=1024) :
 Calls Tryz.prog 143 #[.agg (arr f),.string s] w fun e w'=>e=.returned (.tuple #[.string (Cd.wrt f s).1,.int .i64 (Cd.wrt f s).2])/\Below w.heap.size w w':=by
 have hck:=fun w=>Zar f w
 rw [h0] at hck;have hR:Hid (Cd.InR f 15 16):=(Cd.Zd h0).1;have hwd:=fun w=>ZdK f w hR.out
 obtain ⟨hS,hSe⟩:∃ h,(fun i=>Cd.str (Cd.cw f i))=h:=⟨_,rfl⟩
 rw [hSe] at hwd;have HS:Hid ((fun i=>Cd.str (Cd.cw f i))=hS):=hSe;clear hSe;have hin:=Zc f;have hinw:=Zdv hS;have h0':Hid (Cd.chk f=0):=h0;have hs':(s.size:Int)<=1024:=by omega
 have ds:decide (1024<(s.size:Int))=false:=by simp;omega
 have R1:=RowAt.new w f;have HB:Below w.heap.size w (w.alloc (.cells (arr f) 127)):=(bR _ _).alloc (nl _) _
 obtain ⟨r1,r2,hr⟩:∃ r1 r2,Cd.wrt f s=(r1,r2):=⟨_,_,rfl⟩
 rw [hr];have Hr:Hid (Cd.wrt f s=(r1,r2)):=hr;clear hr h0;go_enter Tryz.func143,Tryz.ntmps143
 go_wp2_with (refine wpList_load_row rfl 127 _ rfl w.heap.size rfl 127 (arr f) (0,0) _ R1.2 U127 rfl hin ?_)
 refine (hck _).mono ?_;rintro e w1 ⟨rfl,G1⟩;have S1:=R1.below G1;have B1:=bch HB G1 (nl _);clear R1 HB G1 hck;go_wp2_with (refine wpList_load_row rfl 127 _ rfl w.heap.size rfl 127 (arr f) (0,0) _ S1.2 U127 rfl hin ?_)
 refine (hwd _).mono ?_;rintro e w2 ⟨rfl,G2⟩;have T1:=S1.below G2;have B2:=bch B1 G2 (nl _);clear S1 B1 G2 hwd;go_wp2_with (refine wpList_store_row rfl 160 _ _ rfl w2.heap.size (arrS hS) rfl rfl 160 _ (heap_alloc_last w2 _) hinw rfl (ZfO _) ?_;rw [World.setRow_alloc_new])
 have T7:=StAt.new w2 hS;have T2:=T1.alloc (.cells (arrS hS) 160);have B3:Below w.heap.size w (w2.alloc (.cells (arrS hS) 160)):=B2.alloc (nL T1.1) _;clear T1 B2;generalize w2.alloc (.cells (arrS hS) 160)=w3 at *;generalize w2.heap.size=g7 at *;go_loopw [8,9] (fun b i wr=>∃ (k:Nat) (bs:List Bool),k<=s.size/\i=.int .i64 k/\b=.string (Cd.str bs)/\Hid (Cd.wrK f s k=some bs)/\RowAt wr w.heap.size f/\StAt wr g7 hS/\Below w.heap.size w wr) (fun _ i _=>s.size - (intOf i).toNat)
 case atStart=>exact ⟨0,[],by omega,rfl,rfl,rfl,T2,T7,B3⟩
 case round =>
  clear T2 T7 B3;obtain ⟨k,bs,hk,rfl,rfl,hW,T2,T7,B3⟩:=hrel;have Hlen:Hid (bs.length<=30*k):=Cd.Zdj hR.out k bs hW.out;by_cases hlt:k<s.size
  ·have hk1:decide ((k:Int)<(s.size:Int))=true:=by simp;omega
   have hk2:decide (k<s.size)=true:=by simp;omega
   obtain ⟨x,hx⟩:∃ x:Int,(s[k].toNat:Int)=x:=⟨_,rfl⟩
   have hA:Cd.at8 s k=s[k].toNat:=by unfold Cd.at8;rw [Nm.ZN s k hlt];rfl
   have hA2:=Cd.ZaC s k;have hx0:0<=x:=by omega
   have hx1:x<=255:=by omega
   obtain ⟨H,hH⟩:∃ H,Cd.at8 s k / 16=H:=⟨_,rfl⟩
   obtain ⟨L,hL⟩:∃ L,Cd.at8 s k % 16=L:=⟨_,rfl⟩
   have e1:x / 16=(H:Int):=by omega
   have e2:x % 16=(L:Int):=by omega
   have e3:x.tdiv 16=(H:Int):=by rw [Int.tdiv_eq_ediv_of_nonneg hx0];exact e1
   have e4:x.tmod 16=(L:Int):=by rw [Int.tmod_eq_emod_of_nonneg hx0];exact e2
   have hH1:H<16:=by omega
   have hL1:L<16:=by omega
   have hH2:(H:Int)<16:=by omega
   have hL2:(L:Int)<16:=by omega
   have HN:Hid (¬ (f H=0\/f L=0)->Cd.wrK f s (k+1)=some (bs++Cd.cw f H++Cd.cw f L)):=fun h=>by have:=Cd.ZfW hW.out (by rw [hH,hL];exact h);rw [hH,hL] at this;exact this
   have HSt:Hid (f H=0\/f L=0->r1=⟨#[]⟩/\r2=5):=fun h=>by
    have h9:Cd.wrt f s=(⟨#[]⟩,5):=by
     rw [Cd.wrt,if_neg (fun h=>h h0'.out),if_neg (by omega),Cd.Zjg hlt hW.out (by rw [hH,hL];exact h)]
    have h8:=Hr.out.symm.trans h9;simpa using h8
   clear hA hA2 hH hL e1 e2;have c1:=T2.cell H hH1;have c2:=T2.cell L hL1;by_cases hz:f H=0
   ·obtain ⟨rfl,rfl⟩:=HSt.out (.inl hz);rw [hz] at c1;clear hz c2;go_wp2_with fail
    go_ret2
    exact ⟨rfl,B3⟩
   ·have d1:(f H == 0)=false:=by simpa using hz
    by_cases hy:f L=0
    ·obtain ⟨rfl,rfl⟩:=HSt.out (.inr hy);rw [hy] at c2;clear hz hy;go_wp2_with fail
     go_ret2
     exact ⟨rfl,B3⟩
    ·have d2:(f L == 0)=false:=by simpa using hy
     have HNN:Hid (Cd.wrK f s (k+1)=some (bs++Cd.cw f H++Cd.cw f L)):=HN.out (fun h=>h.elim hz hy);have c3:wr.cell? ⟨g7,H,none⟩=some (.string (Cd.str (Cd.cw f H))):=by rw [T7.cell H hH1,<-HS.out]
     have c4:wr.cell? ⟨g7,L,none⟩=some (.string (Cd.str (Cd.cw f L))):=by rw [T7.cell L hL1,<-HS.out]
     have sz1:(Cd.str bs).size<=30720:=by rw [Cd.Zad];have:=Hlen.out;omega
     have sz2:(Cd.str (Cd.cw f H)).size<=15:=by rw [Cd.Zad];exact Cd.Zht hR.out hH1
     have sz3:(Cd.str (Cd.cw f L)).size<=15:=by rw [Cd.Zad];exact Cd.Zht hR.out hL1
     have HE:Hid (Cd.str bs++Cd.str (Cd.cw f H)++Cd.str (Cd.cw f L)=Cd.str (bs++Cd.cw f H++Cd.cw f L)):=by show _=_;rw [Cd.Zet,Cd.Zet]
     have sb1:¬ 9223372036854775807<(Cd.str bs).size+(Cd.str (Cd.cw f H)).size:=by omega
     have sb2:¬ 9223372036854775807<(Cd.str bs).size+(Cd.str (Cd.cw f H)).size+(Cd.str (Cd.cw f L)).size:=by omega
     generalize Cd.str (Cd.cw f H)=sH at *;generalize Cd.str (Cd.cw f L)=sL at *;generalize Cd.str bs=sB at *;clear hz hy HSt HN;go_wp2_with fail
     go_quiet (fail)
     go_wp2_with fail
     exact ⟨⟨k+1,_,by omega,by go_num,by rw [HE.out],HNN,T2.below (below_drewN (bR _ _) _),T7.below (below_drewN (bR _ _) _),below_drewN B3 _⟩,by simp [intOf];omega⟩
  ·obtain rfl:k=s.size:=by omega
   have h9:Cd.wrt f s=(⟨(Cd.pk bs).toArray⟩,0):=by
    rw [Cd.wrt,if_neg (fun h=>h h0'.out),if_neg (by omega),hW.out]
   have h8:=Hr.out.symm.trans h9;simp only [Prod.mk.injEq] at h8;obtain ⟨rfl,rfl⟩:=h8;have hbl:bs.length<=30720:=by have:=Hlen.out;omega
   clear h9 T2 T7 hW Hlen hin hinw;have HBL:Hid (bs.length<=30720):=hbl;have hst:Cd.str bs=Cd.str (bs++List.replicate 0 false):=by simp
   rw [hst];clear hst;go_wp2_with fail
   go_loopg [8] ((8 - bs.length % 8) % 8) (fun n b wx=>∃ p:Nat,b=.string (Cd.str (bs++List.replicate p false))/\Hid (p+n=(8 - bs.length % 8) % 8)/\wr=wx)
   case atStart=>exact ⟨0,rfl,by show _=_;omega,rfl⟩
   case round =>
    obtain ⟨p,rfl,Hp,rfl⟩:=hrel;have Hsz:Hid ((Cd.str (bs++List.replicate p false)).size=bs.length+p):=by show _=_;rw [Cd.Zad];simp
    have HE:Hid (Cd.str (bs++List.replicate p false)++⟨#[48]⟩=Cd.str (bs++List.replicate (p+1) false)):=by
     show _=_;have:(⟨#[48]⟩:ByteArray)=Cd.str [false]:=rfl;rw [this,Cd.Zet,List.append_assoc,List.replicate_succ']
    have hsz:(Cd.str (bs++List.replicate p false)).size<=30730:=by have:=Hsz.out;have:=Hp.out;omega
    by_cases hn:gk=0
    ·have HB8:Hid (∃ m,(Cd.str (bs++List.replicate p false)).size=8*m/\m=(bs.length+7) / 8):=by
      have h1:=Hsz.out;have h2:=Hp.out;show ∃ m,_;exact ⟨(bs.length+7) / 8,by omega,rfl⟩
     have hm:((Cd.str (bs++List.replicate p false)).size:Int).tmod 8=0:=by
      obtain ⟨m,h1,_⟩:=HB8.out;rw [h1,Int.tmod_eq_emod_of_nonneg (by omega)];omega
     have hm2:((Cd.str (bs++List.replicate p false)).size:Int) % 8=0:=by
      obtain ⟨m,h1,_⟩:=HB8.out;rw [h1];omega
     have HAt:Hid (∀ q (h:q<(Cd.str (bs++List.replicate p false)).size),((Cd.str (bs++List.replicate p false))[q]).toNat=48+Cd.bq bs q):=fun q h=>by rw [Cd.Zum _ q h,Cd.ZtZ]
     generalize Cd.str (bs++List.replicate p false)=sP at *;clear HE Hp;obtain ⟨m,Hm1,Hm2⟩:∃ m,Hid (sP.size=8*m)/\Hid (m=(bs.length+7) / 8):=by obtain ⟨m,h1,h2⟩:=HB8.out;exact ⟨m,h1,h2⟩
     have hmb:m<=4000:=by have:=Hm2.out;have:=HBL.out;omega
     clear HB8 Hsz hn;go_wp2_with fail
     go_loopw [10,11] (fun o i wx=>∃ (j:Nat) (I:Int),j<=m/\i=.int .i64 I/\Hid (I=8*(j:Int))/\0<=I/\I<=32000/\o=.string ⟨((Cd.pk bs).take j).toArray⟩/\Below w.heap.size w wx) (fun _ i _=>40000 - (intOf i).toNat)
     case atStart=>exact ⟨0,0,by omega,rfl,rfl,by omega,by omega,by simp,B3⟩
     case round =>
      clear B3;obtain ⟨j,I,hj,rfl,HI,hI0,hI1,rfl,B3⟩:=hrel;by_cases hjm:j<m
      ·have dI:decide (I<(sP.size:Int))=true:=by have:=HI.out;have:=Hm1.out;simp;omega
       have Hj8:Hid (8*j+8<=sP.size):=by have:=Hm1.out;show _<=_;omega
       have HI8:Hid (I=((8*j:Nat):Int)):=by have:=HI.out;show _=_;omega
       go_wp2_with fail
       go_loop [12,13] (fun a b=>∃ (r q:Nat),r<=8/\Hid (q=8*j+r)/\q<=33000/\b=.int .i64 (q:Nat)/\a=.int .i64 (Cd.vb bs (8*j) r:Nat)) (fun _ b=>40000 - (intOf b).toNat)
       case atStart=>exact ⟨0,8*j,by omega,rfl,by omega,by rw [HI8.out],rfl⟩
       case round =>
        obtain ⟨r,q,hr,Hq,hqb,rfl,rfl⟩:=hrel;have hv:=Cd.Zvs bs (8*j) hr;by_cases hr8:r<8
        ·have dq:decide ((q:Int)<I+8)=true:=by have:=Hq.out;have:=HI8.out;simp;omega
         have hqs:q<sP.size:=by have:=Hq.out;have:=Hj8.out;omega
         have hqs2:(q:Int)<(sP.size:Int):=by omega
         obtain ⟨y,hy⟩:∃ y:Int,(sP[q].toNat:Int)=y:=⟨_,rfl⟩
         have hyb:y=48+(Cd.bq bs q:Nat):=by rw [<-hy,HAt.out q hqs];omega
         have hbq:=Cd.ZaI bs q;have hy0:48<=y:=by omega
         have hy1:y<=49:=by omega
         have HV:Hid ((Cd.vb bs (8*j) (r+1):Nat)=2*((Cd.vb bs (8*j) r:Nat):Int)+(y - 48)):=by
          show _=_;rw [Cd.vb,hyb,<-Hq.out];omega
         generalize Cd.vb bs (8*j) r=v at *;clear hyb hbq;have Hq1:Hid (q+1=8*j+(r+1)/\q+1<=33000):=by have:=Hq.out;have:=HI8.out;show _/\_;omega
         go_wp2_with fail
         exact ⟨⟨r+1,q+1,by omega,Hq1.out.1,Hq1.out.2,by go_num,by rw [HV.out]⟩,by simp [intOf];omega⟩
        ·obtain rfl:r=8:=by omega
         have dq:decide ((q:Int)<I+8)=false:=by have:=Hq.out;have:=HI8.out;simp;omega
         have HT:Hid (((Cd.pk bs).take (j+1))=(Cd.pk bs).take j++[UInt8.ofNat ((Cd.vb bs (8*j) 8:Nat):Int).toNat]):=by
          show _=_;rw [Cd.ZrT bs (by have:=Hm2.out;omega),Cd.Zup,Int.toNat_natCast]
         have hcv:=Zbo ((Cd.vb bs (8*j) 8:Nat):Int) (by omega) (by omega)
         have hsz2:(⟨((Cd.pk bs).take j).toArray⟩:ByteArray).size<=4000:=by
          show ((Cd.pk bs).take j).toArray.size<=_;simp;omega
         have HE2:Hid ((⟨((Cd.pk bs).take j).toArray⟩:ByteArray)++⟨#[UInt8.ofNat ((Cd.vb bs (8*j) 8:Nat):Int).toNat]⟩=⟨((Cd.pk bs).take (j+1)).toArray⟩):=by
          show _=_;rw [HT.out];exact Nm.ZdN _ _
         generalize Cd.vb bs (8*j) 8=v at *;generalize (⟨((Cd.pk bs).take j).toArray⟩:ByteArray)=o at *;clear HT;have HI2:Hid (I+8=8*((j+1:Nat):Int)/\I+8<=32000):=by have:=HI8.out;show _/\_;omega
         go_wp2_with fail
         exact ⟨⟨j+1,I+8,by omega,rfl,HI2.out.1,by omega,HI2.out.2,by rw [<-HE2.out];rfl,B3.alloc B3.size _⟩,by simp [intOf];omega⟩
      ·obtain rfl:j=m:=by omega
       have dI:decide (I<(sP.size:Int))=false:=by have:=HI.out;have:=Hm1.out;simp;omega
       have hE:(Cd.pk bs).take j=Cd.pk bs:=List.take_of_length_le (by rw [Cd.ZbY];have:=Hm2.out;omega);rw [hE];clear hE;go_wp2_with fail
       go_ret2
       exact ⟨rfl,B3⟩
    ·obtain ⟨n,rfl⟩:∃ x,gk=x+1:=⟨gk - 1,by omega⟩
     obtain ⟨r,Hr8,hr1,hr2⟩:∃ r:Nat,Hid (r=(bs.length+p) % 8)/\r ≠ 0/\r<8:=⟨(bs.length+p) % 8,rfl,by have:=Hp.out;omega,by omega⟩
     have hm:((Cd.str (bs++List.replicate p false)).size:Int).tmod 8=(r:Int):=by rw [Hsz.out,Int.tmod_eq_emod_of_nonneg (by omega),Hr8.out];omega
     have hm2:((Cd.str (bs++List.replicate p false)).size:Int) % 8=(r:Int):=by rw [Hsz.out,Hr8.out];omega
     have dr:((r:Int) != 0)=true:=by simp;omega
     have sb:¬ 9223372036854775807<(Cd.str (bs++List.replicate p false)).size+1:=by omega
     generalize Cd.str (bs++List.replicate p false)=sP at *;clear hr1 hr2 Hsz;go_wp2_with fail
     go_roundg n
     case measure=>omega
     case rel=>exact ⟨p+1,by rw [HE.out],by have:=Hp.out;show _=_;omega,rfl⟩
theorem Zcx (f:Nat->Int) (s:ByteArray) (w:World) (hs0:s.size<=140737488355328) :
 Calls Tryz.prog 143 #[.agg (arr f),.string s] w fun e w'=>e=.returned (.tuple #[.string (Cd.wrt f s).1,.int .i64 (Cd.wrt f s).2])/\Below w.heap.size w w':=by
 by_cases h0:Cd.chk f=0
 ·by_cases hs:s.size<=1024
  ·exact Zhy f s w h0 hs
  ·have h9:Cd.wrt f s=(⟨#[]⟩,2):=by rw [Cd.wrt,if_neg (fun h=>h h0),if_pos (by omega)]
   rw [h9];have hck:=fun w=>Zar f w
   rw [h0] at hck;have hin:=Zc f;have hs':1024<(s.size:Int):=by omega
   have ds:decide (1024<(s.size:Int))=true:=by simp;omega
   have R1:=RowAt.new w f;have HB:Below w.heap.size w (w.alloc (.cells (arr f) 127)):=(bR _ _).alloc (nl _) _;clear h9 hs h0;go_enter Tryz.func143,Tryz.ntmps143
   go_wp2_with (refine wpList_load_row rfl 127 _ rfl w.heap.size rfl 127 (arr f) (0,0) _ R1.2 U127 rfl hin ?_)
   refine (hck _).mono ?_;rintro e w1 ⟨rfl,G1⟩;have B1:=bch HB G1 (nl _);clear R1 HB G1 hck;go_wp2_with fail
   go_ret2
   exact ⟨rfl,B1⟩
 ·have h9:Cd.wrt f s=(⟨#[]⟩,Cd.chk f):=by rw [Cd.wrt,if_pos h0]
  rw [h9];have hck:=fun w=>Zar f w
  have hin:=Zc f;have R1:=RowAt.new w f;have HB:Below w.heap.size w (w.alloc (.cells (arr f) 127)):=(bR _ _).alloc (nl _) _;generalize Cd.chk f=E at *;have d0:(E != 0)=true:=by simpa using h0
  clear h9 h0;go_enter Tryz.func143,Tryz.ntmps143
  go_wp2_with (refine wpList_load_row rfl 127 _ rfl w.heap.size rfl 127 (arr f) (0,0) _ R1.2 U127 rfl hin ?_)
  refine (hck _).mono ?_;rintro e w1 ⟨rfl,G1⟩;have B1:=bch HB G1 (nl _);clear R1 HB G1 hck;go_wp2_with fail
  go_ret2
  exact ⟨rfl,B1⟩
namespace Cd
def rem (b:ByteArray) (a:Nat):List Bool:=(List.range (8*b.size - a)).map fun j=>decide (ZI b (a+j)=1)
theorem Zcf (b:ByteArray) (a:Nat):(rem b a).length=8*b.size - a:=by simp [rem]
theorem ZrF (b:ByteArray) (a j:Nat) (h:j<8*b.size - a):bq (rem b a) j=ZI b (a+j):=by
 have h1:=ZdY b (a+j);simp only [bq,rem,List.getD_eq_getElem?_getD,List.getElem?_map,List.getElem?_range h,Option.map_some,Option.getD_some,bv];by_cases e:ZI b (a+j)=1
 ·simp [e]
 ·have:ZI b (a+j)=0:=by omega
  simp [this]
theorem Zpd (b:ByteArray) (a d:Nat):(rem b a).drop d=rem b (a+d):=by
 apply List.ext_getElem?;intro i;rw [List.getElem?_drop];unfold rem;rw [List.getElem?_map,List.getElem?_map];by_cases h:i<8*b.size - (a+d)
 ·rw [List.getElem?_range (by omega),List.getElem?_range h];simp only [Option.map_some,Nat.add_assoc]
 ·rw [List.getElem?_eq_none (by simp;omega),List.getElem?_eq_none (by simp;omega)];rfl
theorem ZoX {xs ys:List Bool} (hl:xs.length=ys.length) (h:∀ j,j<xs.length->bq xs j=bq ys j):xs=ys:=by
 apply List.ext_getElem hl;intro i h1 h2;have h3:=h i h1;simp only [bq,List.getD_eq_getElem?_getD,List.getElem?_eq_getElem h1,List.getElem?_eq_getElem h2,Option.getD_some] at h3
 revert h3
 cases xs[i] <;> cases ys[i] <;> simp [bv]
theorem Zof {xs:List Bool} {n j:Nat} (h:j<n):bq (xs.take n) j=bq xs j:=by
 simp [bq,List.getD_eq_getElem?_getD,h]
def cnd (f:Nat->Int) (bs:List Bool) (i:Nat):Prop:=0<f i/\(f i).toNat<=bs.length/\bs.take (f i).toNat=cw f i
instance (f:Nat->Int) (bs:List Bool) (i:Nat):Decidable (cnd f bs i):=inferInstanceAs (Decidable (_/\_/\_))
theorem ZiJ {f:Nat->Int} (h:chk f=0) {b:ByteArray} {a i:Nat} (ha:a<=8*b.size) (hi:i<16):cnd f (rem b a) i ↔ s15 f b a=((i:Int),a+(f i).toNat):=by
 obtain ⟨h1,_,_⟩:=Zd h;have h2:=h1 i hi;constructor
 ·rintro ⟨c1,c2,c3⟩
  obtain ⟨N,hN⟩:∃ N:Nat,f i=(N:Int):=⟨(f i).toNat,by omega⟩
  rw [hN,Int.toNat_natCast] at c2 c3 |-
  rw [Zcf] at c2;have hlt:=ZrJ h hi hN (by omega) (by omega);have h9:=Zom f i;refine ZgM hi hN (fun j hj e1 e2=>?_) (fun n hn1 hn j hj e1=>Zjf hi hN (by omega) (by omega) n hn1 hn j hj e1) N 15 1 0 _ (by omega) (by omega) (by omega) (by omega) (by omega) (Int.ediv_eq_zero_of_lt h9.1 hlt) (fun j hj=>?_)
  ·exact Zoj (n:=N - 1) hj hi (by omega) (by omega) (by omega) e2
  ·rw [<-ZrF b a j (by omega),<-Zof hj,c3,cw,hN];exact Zpn _ hj
 ·intro hs;have hne:(s15 f b a).1 ≠ -1:=by rw [hs];simp only;omega
  obtain ⟨s,d,e,hs2,hf,hd,hm,hz,hw,hj⟩:=Zea (f:=f) (ws:=wds f) (b:=b) 15 1 0 a (nl _) hne;have e2:((s:Int),a+d)=((i:Int),a+(f i).toNat):=e.symm.trans hs;simp only [Prod.mk.injEq] at e2;obtain rfl:s=i:=by omega
  have hfd:f s=(d:Int):=by omega
  refine ⟨by omega,by rw [Zcf,hfd,Int.toNat_natCast];omega,?_⟩;rw [hfd,Int.toNat_natCast];have hlen:(cw f s).length=d:=by rw [cw,ZdB,hfd,Int.toNat_natCast]
  refine ZoX (by rw [List.length_take,Zcf,hlen];omega) (fun j hjl=>?_);have hjd:j<d:=by rw [List.length_take] at hjl;omega
  rw [Zof hjd,ZrF b a j (by omega)];have h3:=hj j hjd;rw [<-Zpn (wds f s) hjd] at h3;rw [cw,hfd,Int.toNat_natCast];omega
def frK (f:Nat->Int) (bs:List Bool):Nat->Int
 | 0=>-1
 | k+1=>if frK f bs k ≠ -1 then frK f bs k else if cnd f bs k then (k:Int) else -1
theorem Zrc {f:Nat->Int} {bs:List Bool} {k:Nat} (h:frK f bs k=-1) (h1:¬ cnd f bs k):frK f bs (k+1)=-1:=by rw [frK,if_neg (by omega),if_neg h1]
theorem Zoc {f:Nat->Int} {bs:List Bool} {k:Nat} (h:frK f bs k=-1) (h1:cnd f bs k):∀ j,frK f bs (k+1+j)=(k:Int):=by
 intro j
 induction j with
 | zero=>rw [Nat.add_zero,frK,if_neg (by omega),if_pos h1]
 | succ j ih=>rw [<-Nat.add_assoc,frK,ih,if_pos (by omega)]
def frt (f:Nat->Int) (bs:List Bool):Int:=frK f bs 16
theorem Zmi {f:Nat->Int} {bs:List Bool}:∀ k,(∀ i,i<k->¬ cnd f bs i)->frK f bs k=-1:=by
 intro k
 induction k with
 | zero=>intro _;rfl
 | succ k ih=>intro h;exact Zrc (ih (fun i hi=>h i (by omega))) (h k (by omega))
theorem Zub {f:Nat->Int} (h:chk f=0) {b:ByteArray} {a:Nat} (ha:a<=8*b.size):frt f (rem b a)=(s15 f b a).1/\((s15 f b a).1 ≠ -1->(s15 f b a).2=a+(f (s15 f b a).1.toNat).toNat):=by
 by_cases hne:(s15 f b a).1=-1
 ·refine ⟨?_,fun h9=>absurd hne h9⟩;rw [hne];refine Zmi 16 (fun i hi hc=>?_);have:=(ZiJ h ha hi).1 hc;rw [this] at hne;simp only at hne;omega
 ·obtain ⟨s,d,e,hs2,hf,hd,_⟩:=Zea (f:=f) (ws:=wds f) (b:=b) 15 1 0 a (nl _) hne;have e':s15 f b a=((s:Int),a+d):=e;have hfd:f s=(d:Int):=by omega
  have hc:cnd f (rem b a) s:=(ZiJ h ha hs2).2 (by rw [e',hfd,Int.toNat_natCast]);rw [e'];simp only [Int.toNat_natCast];refine ⟨?_,fun _=>by rw [hfd,Int.toNat_natCast]⟩
  have h1:=Zmi (f:=f) (bs:=rem b a) s (fun i hi hci=>by
   have:=(ZiJ h ha (by omega)).1 hci;rw [e'] at this;simp only [Prod.mk.injEq] at this
   omega)
  have h2:=Zoc h1 hc (15 - s);rw [show s+1+(15 - s)=16 by omega] at h2;exact h2
theorem ZrX {a b:Bool} (h:chr a=chr b):a=b:=by revert h;cases a <;> cases b <;> simp [chr]
theorem ZrV {xs ys:List Bool} (h:str xs=str ys):xs=ys:=by
 have h1:xs.map chr=ys.map chr:=by
  have:=congrArg (fun s=>s.data.toList) h;simpa [str] using this
 apply List.ext_getElem
 ·have:=congrArg List.length h1;simpa using this
 ·intro i h2 h3;have h4:(xs.map chr)[i]?=(ys.map chr)[i]?:=by rw [h1]
  simp only [List.getElem?_map,List.getElem?_eq_getElem h2,List.getElem?_eq_getElem h3,Option.map_some,Option.some.injEq] at h4;exact ZrX h4
theorem ZhZ (bs:List Bool) (n:Nat):(str bs).extract 0 n=str (bs.take n):=by
 apply ByteArray.ext;simp [str,ByteArray.data_extract,List.map_take]
theorem Zhz (bs:List Bool) (n:Nat):(str bs).extract n (str bs).size=str (bs.drop n):=by
 apply ByteArray.ext;rw [Zad];simp [str,ByteArray.data_extract,List.map_drop,List.take_of_length_le]
def pre (b:ByteArray) (k:Nat):List Bool:=(List.range (8*k)).map fun j=>decide (ZI b j=1)
theorem ZsX (b:ByteArray) (k:Nat):(pre b k).length=8*k:=by simp [pre]
theorem Zpk (b:ByteArray) (k:Nat):pre b (k+1)=pre b k++wb (at8 b k) 8:=by
 unfold pre;rw [show 8*(k+1)=8*k+8 by omega,List.range_add,List.map_append,List.map_map]
 congr 1
 have h:∀ r,r<8->decide (ZI b (8*k+r)=1)=decide (((at8 b k:Nat):Int) / 2 ^ (7 - r) % 2=1):=fun r hr=>by
  rw [ZaL b k r hr];have e:(((at8 b k:Nat):Int) / 2 ^ (7 - r) % 2)=((at8 b k / 2 ^ (7 - r) % 2:Nat):Int):=by push_cast;rfl
  rw [e];generalize at8 b k / 2 ^ (7 - r) % 2=y;by_cases hy:y=1
  ·simp [hy]
  ·have:¬ (y:Int)=1:=by omega
   simp [hy,this]
 simp only [wb,List.range_succ,List.range_zero,List.map_cons,List.map_nil,List.nil_append,Function.comp,List.cons_append];rw [h 0 (by omega),h 1 (by omega),h 2 (by omega),h 3 (by omega),h 4 (by omega),h 5 (by omega),h 6 (by omega),h 7 (by omega)]
theorem Ztm (b:ByteArray):pre b b.size=rem b 0:=by simp [pre,rem]
theorem Ztj {f:Nat->Int} {b:ByteArray} {n:Int} (hc:chk f=0) (hn:¬ (n<0\/1024<n)) (h:4*n<(b.size:Int)):rd f b n=(⟨#[]⟩,1):=by
 cases hq:rdK f b n.toNat with
 | none=>exact ZaV hc hn hq
 | some x =>
  obtain ⟨o,a⟩:=x;rw [Zbu hc hn hq];by_cases he:end_ b a=true
  ·exfalso
   obtain ⟨bs,l1,l2,l3,e1,e2⟩:=ZfQ _ o a hq;have h1:=Zdj (Zd hc).1 _ bs e1;rw [end_,Bool.and_eq_true,decide_eq_true_eq] at he;omega
  ·rw [if_neg he]
theorem ZqT {f:Nat->Int} {b:ByteArray} {n:Int} {o:List UInt8} {a:Nat} (hc:chk f=0) (hn:¬ (n<0\/1024<n)) (hq:rdK f b n.toNat=some (o,a)):(wrt f ⟨o.toArray⟩).2=0/\o.length=n.toNat/\rd f b n=if (wrt f ⟨o.toArray⟩).1=b then (⟨o.toArray⟩,0) else (⟨#[]⟩,1):=by
 obtain ⟨bs,l1,l2,l3,e1,e2⟩:=ZfQ _ o a hq
 have hso:(⟨o.toArray⟩:ByteArray).size=n.toNat:=by
  show o.toArray.size=_;simp [l1]
 have hw:wrt f ⟨o.toArray⟩=(⟨(pk bs).toArray⟩,0):=by
  rw [wrt,if_neg (fun h=>h hc),if_neg (by omega),hso,e1]
 rw [hw];refine ⟨rfl,l1,?_⟩;rw [Zbu hc hn hq];by_cases he:end_ b a=true
 ·rw [if_pos he,if_pos (ZjI l2 e2 he).symm]
 ·rw [if_neg he,if_neg];intro h9;apply he;have:=ZqW bs;simp only at h9;rw [h9,l2] at this;exact this
end Cd
theorem ZdM (a b:ByteArray):(a.toList == b.toList)=decide (a=b):=by
 by_cases h:a=b
 ·subst h;simp
 ·rw [decide_eq_false h];refine Bool.eq_false_iff.2 (fun h9=>h ?_);have h8:a.toList=b.toList:=by simpa using h9
  rw [ByteArray.toList_eq,ByteArray.toList_eq] at h8;apply ByteArray.ext;exact Array.toList_inj.1 h8
theorem Zuq (w:World) (f:Nat->Int) (h:Nat->ByteArray):RowAt ((w.alloc (.cells (arr f) 127)).alloc (.cells (arrS h) 160)) w.heap.size f/\StAt ((w.alloc (.cells (arr f) 127)).alloc (.cells (arrS h) 160)) (w.heap.size+1) h/\Below w.heap.size w ((w.alloc (.cells (arr f) 127)).alloc (.cells (arrS h) 160)) :=
 ⟨(RowAt.new w f).alloc _,by have:=StAt.new (w.alloc (.cells (arr f) 127)) h;simpa using this,((bR _ _).alloc (nl _) _).alloc (by simp) _⟩
theorem Zmr (f:Nat->Int) (bs:List Bool) (w:World) (hR:Cd.InR f 15 16) (hb:bs.length<=1000000) :
 Calls Tryz.prog 142 #[.agg (arr f),.agg (arrS fun i=>Cd.str (Cd.cw f i)),.string (Cd.str bs)] w fun e w'=>e=.returned (.int .i64 (Cd.frt f bs))/\Below w.heap.size w w':=by
 obtain ⟨hS,hSe⟩:∃ h,(fun i=>Cd.str (Cd.cw f i))=h:=⟨_,rfl⟩
 rw [hSe];have HS:Hid ((fun i=>Cd.str (Cd.cw f i))=hS):=hSe;have HR:Hid (Cd.InR f 15 16):=hR
 obtain ⟨r,hr⟩:∃ r,Cd.frt f bs=r:=⟨_,rfl⟩
 rw [hr];have Hr:Hid (Cd.frt f bs=r):=hr;clear hSe hR hr;have hsz:(Cd.str bs).size<=1000000:=by rw [Cd.Zad];exact hb
 have Hsz:Hid ((Cd.str bs).size=bs.length):=Cd.Zad bs;obtain ⟨R1,R2,B1⟩:=Zuq w f hS;go_enter Tryz.func142,Tryz.ntmps142
 go_wp2_with fail
 generalize (w.alloc (.cells (arr f) 127)).alloc (.cells (arrS hS) 160)=w0 at *;go_loopw [7] (fun i wr=>∃ k:Nat,k<=16/\i=.int .i64 k/\Hid (Cd.frK f bs k=-1)/\RowAt wr w.heap.size f/\StAt wr (w.heap.size+1) hS/\Below w.heap.size w wr) (fun i _=>16 - (intOf i).toNat)
 case atStart=>exact ⟨0,by omega,rfl,rfl,R1,R2,B1⟩
 case round =>
  clear R1 R2 B1;obtain ⟨k,hk,rfl,hF,R1,R2,B1⟩:=hrel;by_cases hlt:k<16
  ·have hk1:decide ((k:Int)<16)=true:=by simp;omega
   have hk2:decide (k<16)=true:=by simp;omega
   have hk3:(k:Int)<16:=by omega
   have c1:=R1.cell k hlt;have c2:wr.cell? ⟨w.heap.size+1,k,none⟩=some (.string (Cd.str (Cd.cw f k))):=by rw [R2.cell k hlt,<-HS.out]
   have hfk:=HR.out k hlt
   have HY:Hid (Cd.cnd f bs k->r=(k:Int)):=fun h=>by
    have h9:=Cd.Zoc hF.out h (15 - k);rw [show k+1+(15 - k)=16 by omega] at h9;exact Hr.out.symm.trans h9
   have HN:Hid (¬ Cd.cnd f bs k->Cd.frK f bs (k+1)=-1):=fun h=>Cd.Zrc hF.out h
   by_cases h1:0<f k
   ·by_cases h2:(f k).toNat<=bs.length
    ·obtain ⟨N,hN⟩:∃ N:Nat,f k=(N:Int):=⟨(f k).toNat,by omega⟩
     have hext:=Cd.ZhZ bs N;have hbe:=ZdM (Cd.str (bs.take N)) (Cd.str (Cd.cw f k))
     have HC:Hid (Cd.cnd f bs k ↔ Cd.str (bs.take N)=Cd.str (Cd.cw f k)):=by
      unfold Cd.cnd;rw [hN,Int.toNat_natCast];exact ⟨fun h=>by rw [h.2.2],fun h=>⟨by omega,by rw [hN,Int.toNat_natCast] at h2;exact h2,Cd.ZrV h⟩⟩
     rw [hN] at h1 h2 hfk c1;rw [Int.toNat_natCast] at h2;have hNs:(N:Int)<=((Cd.str bs).size:Int):=by have:=Hsz.out;omega
     have hNs':N<=(Cd.str bs).size:=by have:=Hsz.out;omega
     have d1:decide ((0:Int)<(N:Int))=true:=by simp;omega
     have d1':decide (0<N)=true:=by simp;omega
     have d2:decide ((N:Int)<=((Cd.str bs).size:Int))=true:=by simp;omega
     have d2':decide (N<=(Cd.str bs).size)=true:=by simp;omega
     by_cases hc:Cd.str (bs.take N)=Cd.str (Cd.cw f k)
     ·obtain rfl:=HY.out (HC.out.2 hc);rw [decide_eq_true hc] at hbe;generalize Cd.str (bs.take N)=s1 at *;generalize Cd.str (Cd.cw f k)=s2 at *;generalize Cd.str bs=sB at *;clear hc h1 h2 hfk hN HC HN HY;go_wp2_with fail
      go_quiet (fail)
      go_wp2_with fail
      go_ret
      exact ⟨rfl,below_drewN B1 _⟩
     ·have HNN:Hid (Cd.frK f bs (k+1)=-1):=HN.out (fun h=>hc (HC.out.1 h));rw [decide_eq_false hc] at hbe;generalize Cd.str (bs.take N)=s1 at *;generalize Cd.str (Cd.cw f k)=s2 at *;generalize Cd.str bs=sB at *;clear hc h1 h2 hfk hN HC HN HY;go_wp2_with fail
      go_quiet (fail)
      go_wp2_with fail
      exact ⟨⟨k+1,by omega,by go_num,HNN,R1.below (below_drewN (bR _ _) _),R2.below (below_drewN (bR _ _) _),below_drewN B1 _⟩,by simp [intOf];omega⟩
    ·have HNN:Hid (Cd.frK f bs (k+1)=-1):=HN.out (fun h=>h2 h.2.1);have d1:decide (0<f k)=true:=by simpa using h1
     have d2:decide (f k<=((Cd.str bs).size:Int))=false:=by have:=Hsz.out;simp;omega
     generalize f k=z at *;generalize Cd.str bs=sB at *;clear h1 h2 hfk HN HY c2;go_wp2_with fail
     go_quiet (fail)
     go_wp2_with fail
     exact ⟨⟨k+1,by omega,by go_num,HNN,R1.below (below_drewN (bR _ _) _),R2.below (below_drewN (bR _ _) _),below_drewN B1 _⟩,by simp [intOf];omega⟩
   ·have HNN:Hid (Cd.frK f bs (k+1)=-1):=HN.out (fun h=>h1 h.1);have d1:decide (0<f k)=false:=by simpa using h1
    generalize f k=z at *;clear h1 hfk HN HY c2;go_wp2_with fail
    go_quiet (fail)
    go_wp2_with fail
    exact ⟨⟨k+1,by omega,by go_num,HNN,R1.below (below_drewN (bR _ _) _),R2.below (below_drewN (bR _ _) _),below_drewN B1 _⟩,by simp [intOf];omega⟩
  ·obtain rfl:k=16:=by omega
   obtain rfl:r=-1:=Hr.out.symm.trans hF.out;go_wp2_with fail
   go_ret
   exact ⟨rfl,B1⟩
theorem RowAt.grown {w w1:World} {g:Nat} {f:Nat->Int} {v:Value} {o:Obj} (h:RowAt w g f) (hne:some g ≠ v.ownBlock) (hg:(w.alloc o).grownBy w1 v.ownBlock):RowAt w1 g f:=by
 have hblk:w1.heap[g]?=w.heap[g]?:=by
  rw [hg.block g (by have:=h.1;simp;omega) hne];exact ((bR w.heap.size w).alloc (nl _) o).block g h.1
 have h2:=hblk.trans h.2;exact ⟨(aG.1 h2).1,h2⟩
theorem StAt.grown {w w1:World} {g:Nat} {f:Nat->ByteArray} {v:Value} {o:Obj} (h:StAt w g f) (hne:some g ≠ v.ownBlock) (hg:(w.alloc o).grownBy w1 v.ownBlock):StAt w1 g f:=by
 have hblk:w1.heap[g]?=w.heap[g]?:=by
  rw [hg.block g (by have:=h.1;simp;omega) hne];exact ((bR w.heap.size w).alloc (nl _) o).block g h.1
 have h2:=hblk.trans h.2;exact ⟨(aG.1 h2).1,h2⟩
namespace Cd
def At (f:Nat->Int) (b:ByteArray) (I a:Nat) (q:List UInt8):Prop :=
 (∃ k,I=2*k/\rdK f b k=some (q,a)/\q.length=k) ∨
 (∃ k o a0 x,I=2*k+1/\rdK f b k=some (o,a0)/\o.length=k/\s15 f b a0=(x,a)/\0<=x/\x<16/\q=o++[UInt8.ofNat (16*x).toNat])
theorem At.len {f:Nat->Int} {b:ByteArray} {I a:Nat} {q:List UInt8} (h:At f b I a q):q.length=(I+1) / 2:=by
 rcases h with ⟨k,h1,_,h3⟩ | ⟨k,o,a0,x,h1,_,h3,_,_,_,h4⟩
 ·omega
 ·rw [h4];simp;omega
theorem At.stop {f:Nat->Int} {b:ByteArray} {I a:Nat} {q:List UInt8} {n:Int} (h:At f b I a q) (hc:chk f=0) (hn:¬ (n<0\/1024<n)) (hI:(I:Int)<2*n) (hs:(s15 f b a).1=-1):rd f b n=(⟨#[]⟩,1):=by
 rcases h with ⟨k,h1,h2,_⟩ | ⟨k,o,a0,x,h1,h2,_,h3,_⟩
 ·exact ZaV hc hn (ZfM (k:=k) (a1:=(s15 f b a).2) (a2:=(s15 f b (s15 f b a).2).2) (x:=(s15 f b a).1) (y:=(s15 f b (s15 f b a).2).1) (by omega) h2 rfl rfl (.inl hs))
 ·exact ZaV hc hn (ZfM (k:=k) (a1:=a) (a2:=(s15 f b a).2) (x:=x) (y:=(s15 f b a).1) (by omega) h2 h3 rfl (.inr hs))
theorem At.even {f:Nat->Int} {b:ByteArray} {I a a1:Nat} {q:List UInt8} {x:Int} (h:At f b I a q) (hI:I % 2=0) (hs:s15 f b a=(x,a1)) (h0:0<=x) (h1:x<16):At f b (I+1) a1 (q++[UInt8.ofNat (16*x).toNat]):=by
 rcases h with ⟨k,h1',h2,h3⟩ | ⟨k,o,a0,x,h1',_⟩
 ·exact .inr ⟨k,q,a,x,by omega,h2,h3,hs,h0,h1,rfl⟩
 ·omega
theorem At.odd {f:Nat->Int} {b:ByteArray} {I a a1:Nat} {q:List UInt8} {y:Int} (h:At f b I a q) (hI:I % 2=1) (hs:s15 f b a=(y,a1)) (h0:0<=y) (h1:y<16):∃ x:Int,0<=x/\x<16/\q[I / 2]?=some (UInt8.ofNat (16*x).toNat)/\At f b (I+1) a1 (q.set (I / 2) (UInt8.ofNat (16*x+y).toNat)):=by
 rcases h with ⟨k,h1',h2,h3⟩ | ⟨k,o,a0,x,e1,e2,e3,e4,e5,e6,rfl⟩
 ·omega
 ·refine ⟨x,e5,e6,?_,.inl ⟨k+1,by omega,?_,?_⟩⟩
  ·rw [List.getElem?_append_right (by omega),show I / 2 - o.length=0 by omega];rfl
  ·rw [Zgy e2 e4 hs (by omega),show I / 2=o.length by omega,Int.mul_comm 16 x];simp
  ·simp [e3]
theorem At.last {f:Nat->Int} {b:ByteArray} {I a:Nat} {q:List UInt8} (h:At f b I a q) {n:Nat} (hI:I=2*n):rdK f b n=some (q,a):=by
 rcases h with ⟨k,h1,h2,_⟩ | ⟨k,o,a0,x,h1,_⟩
 ·obtain rfl:k=n:=by omega
  exact h2
 ·omega
end Cd
theorem Ziy (f:Nat->Int) (b:ByteArray) (n:Int) (w:World) (h0:Cd.chk f=0) (hn0:0<=n) (hn1:n<=1024) (hb:(b.size:Int)<=4*n) :
 Calls Tryz.prog 100 #[.agg (arr f),.string b,.int .i64 n] w fun e w'=>e=.returned (.tuple #[.string (Cd.rd f b n).1,.int .i64 (Cd.rd f b n).2])/\Below w.heap.size w w':=by
 have hck:=fun w=>Zar f w
 rw [h0] at hck;have HR:Hid (Cd.InR f 15 16):=(Cd.Zd h0).1;have hwd:=fun w=>ZdK f w HR.out
 obtain ⟨hS,hSe⟩:∃ h,(fun i=>Cd.str (Cd.cw f i))=h:=⟨_,rfl⟩
 rw [hSe] at hwd
 have hfr:∀ (bs:List Bool) (w:World),bs.length<=1000000->Calls Tryz.prog 142 #[.agg (arr f),.agg (arrS hS),.string (Cd.str bs)] w fun e w'=>e=.returned (.int .i64 (Cd.frt f bs))/\Below w.heap.size w w':=fun bs w h=>by
  have:=Zmr f bs w HR.out h;rw [hSe] at this;exact this
 clear hSe;have hin:=Zc f;have hinw:=Zdv hS;have H0:Hid (Cd.chk f=0):=h0;have R1:=RowAt.new w f;have HB:Below w.heap.size w (w.alloc (.cells (arr f) 127)):=(bR _ _).alloc (nl _) _
 obtain ⟨r1,r2,hr⟩:∃ r1 r2,Cd.rd f b n=(r1,r2):=⟨_,_,rfl⟩
 rw [hr];have Hr:Hid (Cd.rd f b n=(r1,r2)):=hr;have db:decide (4*n<(b.size:Int))=false:=by simp;omega
 have hbs:b.size<=4096:=by omega
 clear hr h0;go_enter Tryz.func100,Tryz.ntmps100
 go_wp2_with (refine wpList_load_row rfl 127 _ rfl w.heap.size rfl 127 (arr f) (0,0) _ R1.2 U127 rfl hin ?_)
 refine (hck _).mono ?_;rintro e w1 ⟨rfl,G1⟩;have S1:=R1.below G1;have B1:=bch HB G1 (nl _);clear R1 HB G1 hck;go_wp2_with fail
 refine (ZV n 0 1024 _ hn0 hn1).mono ?_;rintro e w' ⟨rfl,hw'⟩;subst hw';go_wp2_with fail
 go_loopw [9,10] (fun s i wr=>∃ k:Nat,k<=b.size/\i=.int .i64 k/\s=.string (Cd.str (Cd.pre b k))/\RowAt wr w.heap.size f/\Below w.heap.size w wr) (fun _ i _=>b.size - (intOf i).toNat)
 case atStart=>exact ⟨0,by omega,rfl,rfl,S1,B1⟩
 case round =>
  clear S1 B1;obtain ⟨k,hk,rfl,rfl,S1,B1⟩:=hrel;by_cases hlt:k<b.size
  ·have hk1:decide ((k:Int)<(b.size:Int))=true:=by simp;omega
   have hk2:decide (k<b.size)=true:=by simp;omega
   obtain ⟨x,hx⟩:∃ x:Int,(b[k].toNat:Int)=x:=⟨_,rfl⟩
   have hA:Cd.at8 b k=b[k].toNat:=by unfold Cd.at8;rw [Nm.ZN b k hlt];rfl
   have hA2:=Cd.ZaC b k;have hx0:0<=x:=by omega
   have hx1:x<=255:=by omega
   have hbt:=fun w=>ZeO 8 x w hx0 (by omega) (by omega)
   have HE:Hid (Cd.str (Cd.pre b k)++Cd.str (Cd.wb x 8)=Cd.str (Cd.pre b (k+1))):=by
    show _=_;rw [Cd.Zpk,<-Cd.Zet,hA,hx]
   have sz1:(Cd.str (Cd.pre b k)).size<=40000:=by rw [Cd.Zad,Cd.ZsX];omega
   have sz2:(Cd.str (Cd.wb x 8)).size<=8:=by rw [Cd.Zad,Cd.ZdB];omega
   generalize Cd.str (Cd.pre b k)=s1 at *;generalize Cd.str (Cd.wb x 8)=s2 at *;clear hA hA2;go_wp2_with fail
   refine (hbt _).mono ?_;rintro e w2 ⟨rfl,G2⟩;have S2:=S1.below G2;have B2:=bch B1 G2 (nl _);clear S1 B1 G2 hbt;go_wp2_with fail
   go_roundw
   case rel=>exact ⟨k+1,by omega,by go_num,by rw [HE.out],S2,B2⟩
   case measure=>simp [intOf];omega
  ·obtain rfl:k=b.size:=by omega
   rw [Cd.Ztm];have hbl:(Cd.rem b 0).length<=1000000:=by rw [Cd.Zcf];omega
   go_wp2_with (refine wpList_load_row rfl 127 _ rfl w.heap.size rfl 127 (arr f) (0,0) _ S1.2 U127 rfl hin ?_)
   refine (hwd _).mono ?_;rintro e w2 ⟨rfl,G2⟩;have T1:=S1.below G2;have B2:=bch B1 G2 (nl _);clear S1 B1 G2 hwd;go_wp2_with (refine wpList_store_row rfl 160 _ _ rfl w2.heap.size (arrS hS) rfl rfl 160 _ (heap_alloc_last w2 _) hinw rfl (ZfO _) ?_;rw [World.setRow_alloc_new])
   have T7:=StAt.new w2 hS;have T2:=T1.alloc (.cells (arrS hS) 160);have B3:Below w.heap.size w (w2.alloc (.cells (arrS hS) 160)):=B2.alloc (nL T1.1) _;have hgw:Hid (w.heap.size<w2.heap.size):=T1.1;clear T1 B2;generalize w2.alloc (.cells (arrS hS) 160)=w3 at *;generalize w2.heap.size=g7 at *;obtain ⟨i0,hi,hz0,hz1,hz2⟩:=info_parts Zct;go_loopw [9,12,13] (fun s v i wr=>∃ (I a:Nat) (q:List UInt8),(I:Int)<=2*n/\i=.int .i64 I/\s=.string (Cd.str (Cd.rem b a))/\a<=8*b.size/\Hid (Cd.At f b I a q)/\q.length<=1024/\wr.ownsRow (g7+1) 5 1 v q.length (bcs q)/\RowAt wr w.heap.size f/\StAt wr g7 hS/\Below w.heap.size w wr) (fun _ _ i _=>4000 - (intOf i).toNat)
   case atStart=>exact ⟨0,0,[],by omega,rfl,rfl,by omega,.inl ⟨0,rfl,rfl,rfl⟩,by simp,World.ownsRow_nil _ _ _ _,T2,T7,B3⟩
   case round =>
    clear T2 T7 B3;obtain ⟨I,a,q,hI,rfl,rfl,ha,HAt,hql,ho,T2,T7,B3⟩:=hrel;by_cases hlt:(I:Int)<2*n
    ·have hk1:decide ((I:Int)<2*n)=true:=by simpa using hlt
     obtain ⟨x,a1,h1⟩:∃ x a1,Cd.s15 f b a=(x,a1):=⟨_,_,rfl⟩
     obtain ⟨p1,p2,p3⟩:=Zsb ha h1;obtain ⟨f1,f2⟩:=Cd.Zub H0.out ha;rw [h1] at f1 f2;have hf:=fun w=>hfr (Cd.rem b a) w (by rw [Cd.Zcf];omega)
     rw [f1] at hf;go_wp2_with (first | refine wpList_load_row rfl 127 _ rfl w.heap.size rfl 127 (arr f) (0,0) _ T2.2 U127 rfl hin ?_ | refine wpList_load_row rfl 160 _ rfl g7 rfl 160 (arrS hS) (0,0) _ T7.2 U160 rfl hinw ?_)
     refine (hf _).mono ?_;rintro e w4 ⟨rfl,G4⟩;have U2:=T2.below G4;have U7:=T7.below G4;have O4:=Zh ho G4;have B4:=bch B3 G4 (nl _);clear T2 T7 ho B3 G4 hf f1 hfr;by_cases hx:x=-1
     ·have h9:=HAt.out.stop H0.out (n:=n) (by omega) hlt (by rw [h1];exact hx);have h8:=Hr.out.symm.trans h9;simp only [Prod.mk.injEq] at h8;obtain ⟨rfl,rfl⟩:=h8;subst hx;clear h9 f2 h1;go_wp2_with fail
      go_ret2
      exact ⟨rfl,B4⟩
     ·have hx0:0<=x:=by omega
      obtain ⟨X,rfl⟩:∃ X:Nat,x=(X:Int):=⟨x.toNat,by omega⟩
      have hX:X<16:=by omega
      have dx:decide ((X:Int)<0)=false:=by simp
      have f3:=f2 hx;rw [Int.toNat_natCast] at f3;have c1:=U2.cell X hX;have hfX:=HR.out X hX
      obtain ⟨N,hN⟩:∃ N:Nat,f X=(N:Int):=⟨(f X).toNat,by omega⟩
      have hext:(Cd.str (Cd.rem b a)).extract N (Cd.str (Cd.rem b a)).size=Cd.str (Cd.rem b a1):=by
       rw [Cd.Zhz,Cd.Zpd];rw [f3,hN,Int.toNat_natCast]
      have hNs:N<=(Cd.str (Cd.rem b a)).size:=by
       rw [Cd.Zad,Cd.Zcf];rw [hN,Int.toNat_natCast] at f3;omega
      have hNs2:(N:Int)<=((Cd.str (Cd.rem b a)).size:Int):=by omega
      have hss:(Cd.str (Cd.rem b a)).size<=40000:=by rw [Cd.Zad,Cd.Zcf];omega
      rw [hN] at c1;have Hq:=HAt.out.len;generalize Cd.str (Cd.rem b a)=s1 at *;have HI1:Hid (((I+1:Nat):Int)<=2*n):=by show _<=_;omega
      have H1:Hid (Cd.s15 f b a=((X:Int),a1)):=h1;have HP1:Hid (a1<=8*b.size):=p1;clear f2 f3 hfX hN h1 hx p2 p1;by_cases hev:I % 2=0
      ·have m1:(I:Int).tmod 2=0:=by rw [Int.tmod_eq_emod_of_nonneg (by omega)];omega
       have m2:(I:Int) % 2=0:=by omega
       have HA2:Hid (Cd.At f b (I+1) a1 (q++[UInt8.ofNat (16*(X:Int)).toNat])):=HAt.out.even hev H1.out (by omega) (by omega);have HBq:Hid (bcs (q++[UInt8.ofNat (16*(X:Int)).toNat])=bcs q++[.int .u8 (16*(X:Int))]):=ZcR q _ (by omega) (by omega);have hle:g7+1<=(w4.alloc (.cells #[.int .u8 (16*(X:Int))] 5)).heap.size:=by have:=U7.1;simp;omega
       have HQ1:Hid (q.length+1<=1024):=by show _<=_;omega
       have hm:(16*(X:Int)) % 256=16*(X:Int):=by omega
       clear hev Hq HAt;go_wp2_with (at_builtin;go_must (refine wpList_append_own _ rfl _ _ 93 rfl (g7+1) 5 i0 (.int .u8 0) 1 1 U93 hi hz0 hz1 hz2 rfl (by decide) _ _ _ rfl (O4.alloc _) ⟨w4.heap.size,0,none⟩ 1 1 [.int .u8 (16*(X:Int))] rfl rfl (cell_one_new _ _ _) (ZdO _) (ZaK (by omega)) (by omega) hle ?_;intro v' w6 hown' hgrow _))
       have hne:∀ g,g<=g7->some g ≠ Value.ownBlock u12:=fun g hg e=>by have:=(O4.lt g e.symm).1;omega
       have V2:=U2.grown (hne _ (nL hgw.out)) hgrow;have V7:=U7.grown (hne _ (nl _)) hgrow;have B6:Below w.heap.size w w6:=(B4.alloc B4.size _).grown hgrow (by have:=B4.size;simp;omega) (fun j hj=>by have:=(O4.lt j hj).1;have:=hgw.out;omega);refine ⟨⟨I+1,a1,q++[UInt8.ofNat (16*(X:Int)).toNat],HI1.out,by go_num,rfl,HP1.out,HA2,by have:=HQ1.out;simp;omega,?_,V2,V7,B6⟩,by simp [intOf];omega⟩;rw [HBq.out,List.length_append];exact hown'
      ·clear Hq;have hod:I % 2=1:=by omega
       have m1:(I:Int).tmod 2=1:=by rw [Int.tmod_eq_emod_of_nonneg (by omega)];omega
       have m2:(I:Int) % 2=1:=by omega
       obtain ⟨y,y0,y1,hy,HA2⟩:=HAt.out.odd hod H1.out (by omega) (by omega)
       obtain ⟨J,hJ⟩:∃ J,I / 2=J:=⟨_,rfl⟩
       have m3:(I:Int).tdiv 2=(J:Int):=by rw [Int.tdiv_eq_ediv_of_nonneg (by omega)];omega
       have m4:(I:Int) / 2=(J:Int):=by omega
       rw [hJ] at hy HA2;have hJq:J<q.length:=(List.getElem?_eq_some_iff.1 hy).1;obtain ⟨g,cap,hv,hg,hgl,hcell,hfz,hset⟩:=ZjU O4 (by intro e;rw [e] at hJq;simp at hJq);subst hv;have hcJ:=hcell J _ hy;have hfJ:=hfz J;have hsJ:=hset J (UInt8.ofNat (16*y+(X:Int)).toNat) hJq;have e1:((UInt8.ofNat (16*y).toNat).toNat:Int)=16*y:=by simp;omega
       have e2:((UInt8.ofNat (16*y+(X:Int)).toNat).toNat:Int)=16*y+(X:Int):=by simp;omega
       rw [e1] at hcJ;rw [e2] at hsJ;have HA3:Hid (Cd.At f b (I+1) a1 (q.set J (UInt8.ofNat (16*y+(X:Int)).toNat))):=HA2;have hsl:(q.set J (UInt8.ofNat (16*y+(X:Int)).toNat)).length<=1024:=by rw [List.length_set];exact hql
       have HJ1:Hid (I / 2=J):=hJ;have hJ2:(J:Int)<(q.length:Int):=by omega
       have V2:=U2.setFar (q:=g) (by have:=hgw.out;omega) J (.int .u8 (16*y+(X:Int)));have V7:=U7.setFar (q:=g) (by omega) J (.int .u8 (16*y+(X:Int)));have B5:=B4.setCell (p:=⟨g,J,none⟩) (by have:=hgw.out;show _<=g;omega) (.int .u8 (16*y+(X:Int)));generalize q.set J (UInt8.ofNat (16*y+(X:Int)).toNat)=q2 at *;have hyX:0<=16*y+(X:Int)/\16*y+(X:Int)<256:=by omega
       clear hev hod HA2 hJ hcell hfz hset e1 e2 U2 U7 O4 B4 HAt hy;go_wp2_with fail
       refine ⟨⟨I+1,a1,q2,HI1.out,by go_num,rfl,HP1.out,HA3,hsl,hsJ,V2,V7,B5⟩,by simp [intOf];omega⟩
    ·have hIn:(I:Int)=2*n:=by omega
     have hk1:decide ((I:Int)<2*n)=false:=by simpa using hlt
     obtain ⟨m,hm⟩:∃ m:Nat,n=(m:Int):=⟨n.toNat,by omega⟩
     have hrk:=HAt.out.last (n:=n.toNat) (by omega);obtain ⟨k1,k2,k3⟩:=Cd.ZqT H0.out (n:=n) (by omega) hrk
     have hso:(⟨q.toArray⟩:ByteArray).size<=140737488355328:=by
      show q.toArray.size<=_;simp;omega
     have hwr:=fun w=>Zcx f ⟨q.toArray⟩ w hso
     rw [k1] at hwr;have hcv:=ZbQ (l:=q) ho;have h8:=Hr.out.symm.trans k3;have hbe:=ZdM (Cd.wrt f ⟨q.toArray⟩).1 b;generalize (Cd.wrt f ⟨q.toArray⟩).1=t at *;clear hIn hm hrk k1 k2 k3 hfr;go_wp2_with (refine wpList_load_row rfl 127 _ rfl w.heap.size rfl 127 (arr f) (0,0) _ T2.2 U127 rfl hin ?_)
     refine (hwr _).mono ?_;rintro e w4 ⟨rfl,G4⟩;have B4:=bch B3 G4 (nl _);have hcv2:=ZbQ (l:=q) (Zh ho G4);clear hcv hwr T2 T7 B3 ho G4;by_cases ht:t=b
     ·rw [if_pos ht] at h8;simp only [Prod.mk.injEq] at h8;obtain ⟨rfl,rfl⟩:=h8;rw [decide_eq_true ht] at hbe;clear ht;go_wp2_with fail
      go_ret2
      exact ⟨rfl,B4⟩
     ·rw [if_neg ht] at h8;simp only [Prod.mk.injEq] at h8;obtain ⟨rfl,rfl⟩:=h8;rw [decide_eq_false ht] at hbe;clear ht;go_wp2_with fail
      go_ret2
      exact ⟨rfl,B4⟩
theorem ZaY (f:Nat->Int) (b:ByteArray) (n:Int) (w:World) :
 Calls Tryz.prog 100 #[.agg (arr f),.string b,.int .i64 n] w fun e w'=>e=.returned (.tuple #[.string (Cd.rd f b n).1,.int .i64 (Cd.rd f b n).2])/\Below w.heap.size w w':=by
 have hck:=fun w=>Zar f w
 have hin:=Zc f;have R1:=RowAt.new w f;have HB:Below w.heap.size w (w.alloc (.cells (arr f) 127)):=(bR _ _).alloc (nl _) _;by_cases h0:Cd.chk f=0
 ·rw [h0] at hck;by_cases hn:n<0\/1024<n
  ·have h9:Cd.rd f b n=(⟨#[]⟩,3):=by rw [Cd.rd,if_neg (fun h=>h h0),if_pos hn]
   rw [h9];clear h9 h0;go_enter Tryz.func100,Tryz.ntmps100
   go_wp2_with (refine wpList_load_row rfl 127 _ rfl w.heap.size rfl 127 (arr f) (0,0) _ R1.2 U127 rfl hin ?_)
   refine (hck _).mono ?_;rintro e w1 ⟨rfl,G1⟩;have B1:=bch HB G1 (nl _);clear R1 HB G1 hck;go_wp2_with fail
   refine (ZbF n 0 1024 _ (by omega)).mono ?_;rintro e w' ⟨rfl,hw'⟩;subst hw';clear hn;go_wp2_with fail
   go_ret2
   exact ⟨rfl,B1⟩
  ·by_cases hb4:(b.size:Int)<=4*n
   ·exact Ziy f b n w h0 (by omega) (by omega) hb4
   ·have h9:Cd.rd f b n=(⟨#[]⟩,1):=Cd.Ztj h0 hn (by omega);rw [h9];have hn0:0<=n:=by omega
    have hn1:n<=1024:=by omega
    have db:decide (4*n<(b.size:Int))=true:=by simp;omega
    clear h9 h0 hn hb4;go_enter Tryz.func100,Tryz.ntmps100
    go_wp2_with (refine wpList_load_row rfl 127 _ rfl w.heap.size rfl 127 (arr f) (0,0) _ R1.2 U127 rfl hin ?_)
    refine (hck _).mono ?_;rintro e w1 ⟨rfl,G1⟩;have B1:=bch HB G1 (nl _);clear R1 HB G1 hck;go_wp2_with fail
    refine (ZV n 0 1024 _ hn0 hn1).mono ?_;rintro e w' ⟨rfl,hw'⟩;subst hw';go_wp2_with fail
    go_ret2
    exact ⟨rfl,B1⟩
 ·have h9:Cd.rd f b n=(⟨#[]⟩,Cd.chk f):=by rw [Cd.rd,if_pos h0]
  rw [h9];generalize Cd.chk f=E at *;have d0:(E != 0)=true:=by simpa using h0
  clear h9 h0;go_enter Tryz.func100,Tryz.ntmps100
  go_wp2_with (refine wpList_load_row rfl 127 _ rfl w.heap.size rfl 127 (arr f) (0,0) _ R1.2 U127 rfl hin ?_)
  refine (hck _).mono ?_;rintro e w1 ⟨rfl,G1⟩;have B1:=bch HB G1 (nl _);clear R1 HB G1 hck;go_wp2_with fail
  go_ret2
  exact ⟨rfl,B1⟩
namespace Bk
def jnK (f:Nat->Int) (k:Nat):List UInt8:=(List.range k).map fun j=>UInt8.ofNat (f (2*j)*16+f (2*j+1)).toNat
def jn (f:Nat->Int):List UInt8:=jnK f 8
theorem ZjV (f:Nat->Int) (k:Nat):jnK f (k+1)=jnK f k++[UInt8.ofNat (f (2*k)*16+f (2*k+1)).toNat]:=by
 unfold jnK;rw [List.range_succ,List.map_append];rfl
theorem Zdm (f:Nat->Int) (k:Nat):(jnK f k).length=k:=by simp [jnK]
end Bk
theorem ZpM {o:Oper} {a:Act} {w:World} {K:Act->World->Prop} {Q:Exit->Act->World->Prop} (s x:Operand)
 (ho:o.op=.call { callee:=.builtin .append,args:=#[s,x],argTypes:=#[93,93] })
 (base:Nat) (v:Value) (l:List UInt8) (hs:a.eval s=v) (hown:w.ownsRow base 5 1 v l.length (bcs l)) (n:Int) (hx:a.eval x=.slice (some ⟨w.heap.size,0,none⟩) 1 1)
 (hl:l.length<=100000) (hbase:base<=w.heap.size) (h0:0<=n) (h1:n<256)
 (h:∀ v' w',w'.ownsRow base 5 1 v' (l++[UInt8.ofNat n.toNat]).length (bcs (l++[UInt8.ofNat n.toNat]))->(w.alloc (.cells #[.int .u8 n] 5)).grownBy w' v.ownBlock->K (a.put o.dst v') w'):o.wp Tryz.prog a (w.alloc (.cells #[.int .u8 n] 5)) K Q:=by
 obtain ⟨i0,hi,hz0,hz1,hz2⟩:=info_parts Zct;refine wp_append_own _ s x 93 ho base 5 i0 (.int .u8 0) 1 1 U93 hi hz0 hz1 hz2 rfl (by decide) v l.length (bcs l) hs (hown.alloc _) ⟨w.heap.size,0,none⟩ 1 1 [.int .u8 n] hx rfl (cell_one_new _ _ _) (ZdO _) (ZaK (by omega)) (by omega) (by simp;omega) ?_;intro v' w' h2 h3 _;refine h v' w' ?_ h3;rw [ZcR l n h0 h1,List.length_append];exact h2
theorem ZiP {md:Region.Mode} {ops:Array Oper} {Q:Exit->Act->World->Prop} {S:World->Prop} {i j:Nat} {o p:Oper} {fuel:Nat} {listed:Array Bool} {a:Act} {w:World} {n:Int}
 (hr:Region.ready md ops listed=[i]) (hr2:Region.ready md ops (listed.setIfInBounds i true)=[j]) (hr3:Region.ready md ops ((listed.setIfInBounds i true).setIfInBounds j true)=[]) (ho:ops[i]?=some o) (hp:ops[j]?=some p) (hg:o.guard=none) (hgp:p.guard=none)
 (s x y:Operand) (hop:o.op=.call { callee:=.builtin .append,args:=#[s,x],argTypes:=#[93,93] }) (hpo:p.op=.assign y)
 (base:Nat) (v:Value) (l:List UInt8) (hs:a.eval s=v) (hown:w.ownsRow base 5 1 v l.length (bcs l)) (hx:a.eval x=.slice (some ⟨w.heap.size,0,none⟩) 1 1)
 (hl:l.length<=100000) (hbase:base<=w.heap.size) (h0:0<=n) (h1:n<256) (hy:∀ v',(a.put o.dst v').eval y=v')
 (h:∀ v' w',w'.ownsRow base 5 1 v' (l++[UInt8.ofNat n.toNat]).length (bcs (l++[UInt8.ofNat n.toNat]))->(w.alloc (.cells #[.int .u8 n] 5)).grownBy w' v.ownBlock->S w'/\Q .normal ((a.put o.dst v').put p.dst v') w'):wpAnyH Tryz.prog md ops Q S (fuel+2) listed a (w.alloc (.cells #[.int .u8 n] 5)) :=
 wpAnyH_all (fuel:=fuel+1) hr (by simp) (fun k hk=>by
  obtain rfl:k=i:=by simpa using hk
  refine wpOp_step ho (fun K hK=>ZeR hg ?_);refine ZpM s x hop base v l hs hown n hx hl hbase h0 h1 (fun v' w' h2 h3=>hK _ _ ?_);obtain ⟨h4,h5⟩:=h v' w' h2 h3;refine ⟨h4,Zhc (i:=j) (o:=p) (v:=v') hr2 hr3 hp (Or.inl ⟨by simp [Region.wanted,hgp],fun w _=>?_⟩) h4 h5⟩;unfold execOp
  simp only [hpo,hy,Sem.run_pure])
theorem ZkY (f:Nat->Int) (w:World) (hR:Cd.InR f 15 16) :
 Calls Tryz.prog 163 #[.agg (arr f)] w fun e w'=>e=.returned (.string ⟨(Bk.jn f).toArray⟩)/\Below w.heap.size w w':=by
 have R1:=RowAt.new w f;have B1:Below w.heap.size w (w.alloc (.cells (arr f) 127)):=(bR _ _).alloc (nl _) _;have HR:Hid (Cd.InR f 15 16):=hR;clear hR;go_enter Tryz.func163,Tryz.ntmps163
 go_wp2_with fail
 generalize w.alloc (.cells (arr f) 127)=w0 at *;go_loopw [3,5] (fun v i wr=>∃ k:Nat,k<=8/\i=.int .i64 k/\wr.ownsRow (w.heap.size+1) 5 1 v (Bk.jnK f k).length (bcs (Bk.jnK f k))/\RowAt wr w.heap.size f/\Below w.heap.size w wr) (fun _ i _=>8 - (intOf i).toNat)
 case atStart=>exact ⟨0,by omega,rfl,World.ownsRow_nil _ _ _ _,R1,B1⟩
 case round =>
  clear R1 B1;obtain ⟨k,hk,rfl,ho,R1,B1⟩:=hrel;by_cases hlt:k<8
  ·have hk1:decide ((k:Int)<8)=true:=by simp;omega
   have hk2:decide (k<8)=true:=by simp;omega
   obtain ⟨K2,hK2e⟩:∃ K2,2*k=K2:=⟨_,rfl⟩
   obtain ⟨K3,hK3e⟩:∃ K3,2*k+1=K3:=⟨_,rfl⟩
   have hK2:K2<16:=by omega
   have hK3:K3<16:=by omega
   have m2:2*(k:Int)=(K2:Int):=by omega
   have m3:(K2:Int)+1=(K3:Int):=by omega
   have hK2i:(K2:Int)<16:=by omega
   have hK3i:(K3:Int)<16:=by omega
   have HN:=Bk.ZjV f k;rw [hK3e,hK2e] at HN;have HNN:Hid (Bk.jnK f (k+1)=Bk.jnK f k++[UInt8.ofNat (f K2*16+f K3).toNat]):=HN;have hx:=HR.out K2 hK2;have hy:=HR.out K3 hK3;have hlen:(Bk.jnK f k).length<=100000:=by rw [Bk.Zdm];omega
   have hcs:∀ w',RowAt w' w.heap.size f->w'.cell? ⟨w.heap.size,K2,none⟩=some (.int .i64 (f K2))/\w'.cell? ⟨w.heap.size,K3,none⟩=some (.int .i64 (f K3)):=fun w' h=>⟨h.cell K2 hK2,h.cell K3 hK3⟩
   have HC:Hid (∀ w',RowAt w' w.heap.size f->w'.cell? ⟨w.heap.size,K2,none⟩=some (.int .i64 (f K2))/\w'.cell? ⟨w.heap.size,K3,none⟩=some (.int .i64 (f K3))):=hcs;clear HN hcs hK2e hK3e
   obtain ⟨x,hxe⟩:∃ x,f K2=x:=⟨_,rfl⟩
   obtain ⟨y,hye⟩:∃ y,f K3=y:=⟨_,rfl⟩
   rw [hxe,hye] at HNN HC;rw [hxe] at hx;rw [hye] at hy;clear hxe hye;obtain ⟨hx0,hx1⟩:=hx;obtain ⟨hy0,hy1⟩:=hy;have w1:IntKind.i64.wrap (x*16)=x*16:=IntWalk.i64_in _ ⟨by omega,by omega⟩;have w2:IntKind.i64.wrap (x*16+y)=x*16+y:=IntWalk.i64_in _ ⟨by omega,by omega⟩;have w3:IntKind.u8.wrap (x*16+y)=x*16+y:=IntWalk.u8_in _ ⟨by omega,by omega⟩;have w4:IntKind.i64.wrap (K2:Int)=(K2:Int):=IntWalk.i64_in _ ⟨by omega,by omega⟩;have w5:IntKind.i64.wrap (K3:Int)=(K3:Int):=IntWalk.i64_in _ ⟨by omega,by omega⟩;go_wp2_with fail
   refine wp_region_held_drew (S:=fun w'=>RowAt w' w.heap.size f/\True) (by kernel_rfl) ⟨R1,trivial⟩ (fun hS=>?_);refine wK (i:=0) (fuel:=15) (v:=u3) rfl (by kernel_rfl) (by kernel_rfl) (by kernel_rfl) (fun _ _ _ h=>h) (Or.inl ⟨by rfl,fun w hw'=>by go_simp⟩) hS ?_;refine wK (i:=1) (fuel:=14) (v:=.int .i64 (k:Int)) rfl (by kernel_rfl) (by kernel_rfl) (by kernel_rfl) (fun _ _ _ h=>h) (Or.inl ⟨by rfl,fun w hw'=>by go_simp⟩) hS ?_;refine wK (i:=2) (fuel:=13) (v:=.int .i64 (K2:Int)) rfl (by kernel_rfl) (by kernel_rfl) (by kernel_rfl) (fun _ _ _ h=>h) (Or.inl ⟨by rfl,fun w hw'=>by go_simp⟩) hS ?_;refine wK (i:=3) (fuel:=12) (v:=.pointer (some ⟨w.heap.size,K2,none⟩)) rfl (by kernel_rfl) (by kernel_rfl) (by kernel_rfl) (fun _ _ _ h=>h) (Or.inl ⟨by rfl,fun w hw'=>by go_simp⟩) hS ?_;refine wK (i:=4) (fuel:=11) (v:=.int .i64 x) rfl (by kernel_rfl) (by kernel_rfl) (by kernel_rfl) (fun _ _ _ h=>h) (Or.inl ⟨by rfl,fun w hw'=>by have hc9:=(HC.out _ hw'.1).1;go_simp⟩) hS ?_;refine wK (i:=5) (fuel:=10) (v:=.int .i64 (x*16)) rfl (by kernel_rfl) (by kernel_rfl) (by kernel_rfl) (fun _ _ _ h=>h) (Or.inl ⟨by rfl,fun w hw'=>by go_simp⟩) hS ?_;refine wK (i:=6) (fuel:=9) (v:=.int .i64 (k:Int)) rfl (by kernel_rfl) (by kernel_rfl) (by kernel_rfl) (fun _ _ _ h=>h) (Or.inl ⟨by rfl,fun w hw'=>by go_simp⟩) hS ?_;refine wK (i:=7) (fuel:=8) (v:=.int .i64 (K2:Int)) rfl (by kernel_rfl) (by kernel_rfl) (by kernel_rfl) (fun _ _ _ h=>h) (Or.inl ⟨by rfl,fun w hw'=>by go_simp⟩) hS ?_;refine wK (i:=8) (fuel:=7) (v:=.int .i64 (K3:Int)) rfl (by kernel_rfl) (by kernel_rfl) (by kernel_rfl) (fun _ _ _ h=>h) (Or.inl ⟨by rfl,fun w hw'=>by go_simp⟩) hS ?_;refine wK (i:=9) (fuel:=6) (v:=.pointer (some ⟨w.heap.size,K3,none⟩)) rfl (by kernel_rfl) (by kernel_rfl) (by kernel_rfl) (fun _ _ _ h=>h) (Or.inl ⟨by rfl,fun w hw'=>by go_simp⟩) hS ?_;refine wK (i:=10) (fuel:=5) (v:=.int .i64 y) rfl (by kernel_rfl) (by kernel_rfl) (by kernel_rfl) (fun _ _ _ h=>h) (Or.inl ⟨by rfl,fun w hw'=>by have hc9:=(HC.out _ hw'.1).2;go_simp⟩) hS ?_;refine wK (i:=11) (fuel:=4) (v:=.int .i64 (x*16+y)) rfl (by kernel_rfl) (by kernel_rfl) (by kernel_rfl) (fun _ _ _ h=>h) (Or.inl ⟨by rfl,fun w hw'=>by go_simp⟩) hS ?_;refine wK (i:=12) (fuel:=3) (v:=.int .u8 (x*16+y)) rfl (by kernel_rfl) (by kernel_rfl) (by kernel_rfl) (fun _ _ _ h=>h) (Or.inl ⟨by rfl,fun w hw'=>by go_simp⟩) hS ?_;refine wY (rs:=[13]) (fuel:=2) (by kernel_rfl) (by simp) ?_;refine rC rfl (fun K hK=>?_) rN;go_simp
   have hRA:RowAt (wr.alloc (.cells #[.int .u8 (x*16+y)] 5)).drew w.heap.size f:=R1.alloc _;refine hK.out _ _ ⟨hRA,trivial⟩ (fun _=>?_);clear hK hRA;have hne:∀ q,q<=w.heap.size->some q ≠ Value.ownBlock u3:=fun q hq e=>by have:=(ho.lt q e.symm).1;omega
   refine ZiP (w:=wr.drew) (i:=14) (j:=15) (fuel:=0) (by kernel_rfl) (by kernel_rfl) (by kernel_rfl) rfl rfl rfl rfl _ _ _ rfl rfl (w.heap.size+1) u3 (Bk.jnK f k) rfl ho rfl hlen (by have:=R1.1;show _<=wr.heap.size;omega) (by omega) (by omega) (fun v'=>rfl) ?_;intro v' w6 hown' hgrow;have V1:RowAt w6 w.heap.size f:=(show RowAt wr.drew w.heap.size f from R1).grown (hne _ (nl _)) hgrow;refine ⟨⟨V1,trivial⟩,?_⟩;have B6:Below w.heap.size w w6:=((show Below w.heap.size w wr.drew from B1.drew).alloc B1.size _).grown hgrow (by have:=B1.size;show _<=(wr.alloc _).heap.size;simp;omega) (fun j hj=>by have:=(ho.lt j hj).1;omega);rw [<-HNN.out] at hown';go_wp2_with fail
   exact ⟨⟨k+1,by omega,by go_num,hown',V1,B6⟩,by simp [intOf];omega⟩
  ·obtain rfl:k=8:=by omega
   have hk1:decide ((8:Int)<8)=false:=by decide
   have hcv:=ZbQ (l:=Bk.jnK f 8) ho;go_wp2_with fail
   go_ret
   exact ⟨rfl,B1⟩
set_option linter.unusedVariables false
theorem ZjJ (f:Nat->Int) (s:ByteArray):(Cd.wrt f s).1.size<=140737488355328:=by
 have z:(⟨#[]⟩:ByteArray).size<=140737488355328:=by decide
 unfold Cd.wrt;by_cases h:Cd.chk f=0
 ·rw [if_neg (fun h9=>h9 h)];by_cases h1:1024<s.size
  ·rw [if_pos h1];exact z
  ·rw [if_neg h1]
   cases hq:Cd.wrK f s s.size with
   | none=>exact z
   | some bs =>
    simp only;rw [Cd.Zex];have:=Cd.Zdj (Cd.Zd h).1 _ bs hq;omega
 ·rw [if_pos h];exact z
theorem Ztn (f:Nat->Int) (b:ByteArray) (n:Int) (h:(Cd.rd f b n).2=0):(Cd.rd f b n).1.size<=140737488355328:=by
 obtain ⟨_,h2⟩:=Cd.ZqY h;by_cases hn:n<0\/1024<n
 ·by_cases hc:Cd.chk f=0
  ·rw [Cd.rd,if_neg (fun h=>h hc),if_pos hn];exact (by decide:(⟨#[]⟩:ByteArray).size<=140737488355328)
  ·rw [Cd.rd,if_pos hc];exact (by decide:(⟨#[]⟩:ByteArray).size<=140737488355328)
 ·omega
end Go.Proofs.YtbjbjbpgmojcbabGreat
namespace Go.Proofs.YtbjbjbpgmojcbabGreat.Cd
theorem Zbj {g h:Nat->Int}:∀ k,(∀ i,i<k->g i=h i)->tot g k=tot h k:=by
 intro k
 induction k with
 | zero=>intro _;rfl
 | succ k ih=>intro e;rw [tot,tot,ih (fun i hi=>e i (by omega)),e k (by omega)]
theorem Zcp {g h:Nat->Int} {p:Nat}:∀ k,p<k->(∀ i,i<k->i ≠ p->g i=h i)->tot g k+h p=tot h k+g p:=by
 intro k
 induction k with
 | zero=>intro h;omega
 | succ k ih =>
  intro hp e;rw [tot,tot];by_cases hk:p=k
  ·subst hk;rw [Zbj p (fun i hi=>e i (by omega) (by omega))];omega
  ·have h1:=ih (by omega) (fun i hi=>e i (by omega));have h2:=e k (by omega) (by omega);omega
theorem ZcF {g h:Nat->Int} {p q k:Nat} (hp:p<k) (hq:q<k) (hne:p ≠ q) (e:∀ i,i<k->i ≠ p->i ≠ q->g i=h i):tot g k+h p+h q=tot h k+g p+g q:=by
 have h1:tot g k+upd g p (h p) p=tot (upd g p (h p)) k+g p:=Zcp k hp (fun i _ hi=>(Zg g _ hi).symm)
 have h2:tot (upd g p (h p)) k+h q=tot h k+upd g p (h p) q:=Zcp k hq (fun i hi h9=>by
  by_cases h8:i=p
  ·subst h8;exact ZD _ _ _
  ·rw [Zg _ _ h8];exact e i hi h8 h9)
 rw [ZD] at h1;rw [Zg _ _ (fun e=>hne e.symm)] at h2;omega
theorem ZrQ {g:Nat->Int} {d:Int}:∀ k,(∀ i,i<k->d ∣ g i)->d ∣ tot g k:=by
 intro k
 induction k with
 | zero=>intro _;exact ⟨0,by simp [tot]⟩
 | succ k ih=>intro h;rw [tot];exact Int.dvd_add (ih (fun i hi=>h i (by omega))) (h k (by omega))
theorem Zoe (R:Nat->Nat) (P:Nat->Prop):∀ k,(∃ i,i<k/\P i)->∃ a,a<k/\P a/\∀ i,i<k->P i->R i<=R a:=by
 intro k
 induction k with
 | zero=>rintro ⟨i,h,_⟩;omega
 | succ k ih =>
  rintro ⟨i,hi,hP⟩;by_cases h:∃ i,i<k/\P i
  ·obtain ⟨a,ha,hPa,hm⟩:=ih h;by_cases hk:P k/\R a<R k
   ·refine ⟨k,by omega,hk.1,fun j hj hPj=>?_⟩;by_cases e:j=k
    ·subst e;exact nl _
    ·have:=hm j (by omega) hPj;omega
   ·refine ⟨a,by omega,hPa,fun j hj hPj=>?_⟩;by_cases e:j=k
    ·subst e;have h9:¬ R a<R j:=fun h8=>hk ⟨hPj,h8⟩
     omega
    ·exact hm j (by omega) hPj
  ·obtain rfl:i=k:=by
    by_cases e:i=k
    ·exact e
    ·exact absurd ⟨i,by omega,hP⟩ h
   refine ⟨i,by omega,hP,fun j hj hPj=>?_⟩;by_cases e:j=i
   ·subst e;exact nl _
   ·exact absurd ⟨j,by omega,hPj⟩ h
def kr (W:Nat->Int) (R:Nat->Nat) (M:Nat) (i:Nat):Int:=if W i=0 then 0 else 2 ^ (M - R i)
def cs (W:Nat->Int) (R:Nat->Nat) (i:Nat):Int:=W i*(R i:Int)
def updN (f:Nat->Nat) (k v:Nat):Nat->Nat:=fun i=>if i=k then v else f i
theorem ZL (f:Nat->Nat) (k v:Nat):updN f k v k=v:=by simp [updN]
theorem Zv (f:Nat->Nat) {k i:Nat} (v:Nat) (h:i ≠ k):updN f k v i=f i:=by simp [updN,h]
theorem ZuI (W:Nat->Int) (R:Nat->Nat) (M i:Nat):0<=kr W R M i:=by
 unfold kr;split
 ·exact Int.le_refl _
 ·have:=pow_pos (M - R i);omega
theorem ZaD {W:Nat->Int} {R:Nat->Nat} {M i:Nat} (h:W i ≠ 0):kr W R M i=2 ^ (M - R i):=by rw [kr,if_neg h]
structure Fit (W:Nat->Int) (M:Nat) (R:Nat->Nat):Prop where
 le:∀ i,i<16->W i ≠ 0->R i<=M
 sum:tot (kr W R M) 16<=2 ^ M
theorem Znv (a b:Nat):(2:Int) ^ (a+b)=2 ^ a*2 ^ b:=Int.pow_add ..
theorem Ztt {W:Nat->Int} {M:Nat} {R:Nat->Nat} (hW:∀ i,i<16->0<=W i) (h:Fit W M R) {p q:Nat} (hp:p<16) (hq:q<16) (hne:p ≠ q) (np:W p ≠ 0) (nq:W q ≠ 0) :
 ∃ R1 y a b,Fit W M R1/\tot (cs W R1) 16<=tot (cs W R) 16/\a<16/\b<16/\a ≠ b/\W a ≠ 0/\W b ≠ 0/\R1 a=y/\R1 b=y/\∀ i,i<16->W i ≠ 0->R1 i<=y:=by
 obtain ⟨a,ha,na,ma⟩:=Zoe R (fun i=>W i ≠ 0) 16 ⟨p,hp,np⟩
 obtain ⟨b,hb,nb,mb⟩:=Zoe R (fun i=>W i ≠ 0/\i ≠ a) 16 (by
  by_cases e:p=a
  ·exact ⟨q,hq,nq,by omega⟩
  ·exact ⟨p,hp,np,e⟩)
 have hyM:=h.le b hb nb.1;have hxM:=h.le a ha na;refine ⟨updN R a (R b),R b,a,b,⟨?_,?_⟩,?_,ha,hb,fun e=>nb.2 e.symm,na,nb.1,ZL _ _ _,Zv _ _ nb.2,?_⟩
 ·intro i hi ni;by_cases e:i=a
  ·subst e;rw [ZL];exact hyM
  ·rw [Zv _ _ e];exact h.le i hi ni
 ·
  have c1:=Zcp (g:=kr W (updN R a (R b)) M) (h:=upd (kr W R M) a 0) (p:=a) 16 ha (fun i _ e=>by rw [Zg _ _ e,kr,kr,Zv _ _ e]);have c2:=Zcp (g:=kr W R M) (h:=upd (kr W R M) a 0) (p:=a) 16 ha (fun i _ e=>by rw [Zg _ _ e]);rw [ZD] at c1 c2;rw [ZaD (R:=updN R a (R b)) na,ZL] at c1;rw [ZaD na] at c2
  have hd:(2:Int) ^ (M - R b) ∣ tot (upd (kr W R M) a 0) 16:=ZrQ 16 (fun i hi=>by
   by_cases e:i=a
   ·subst e;rw [ZD];exact ⟨0,by simp⟩
   ·rw [Zg _ _ e,kr];split
    ·exact ⟨0,by simp⟩
    ·rename_i ni
     have:=mb i hi ⟨ni,e⟩
     exact ⟨2 ^ (R b - R i),by rw [<-Znv];congr 1;omega⟩)
  obtain ⟨j,hj⟩:=hd;have hs:=h.sum;have h1:=pow_pos (M - R a);have h2:=pow_pos (M - R b);have hM:(2:Int) ^ M=2 ^ (M - R b)*2 ^ R b:=by rw [<-Znv];congr 1;omega
  generalize (2:Int) ^ (M - R b)=u at *;generalize (2:Int) ^ R b=v at *;have hlt:u*j<u*v:=by omega
  have hjv:j<v:=Int.lt_of_mul_lt_mul_left hlt (by omega);have h3:u*(j+1)<=u*v:=Int.mul_le_mul_of_nonneg_left (by omega) (by omega);rw [Int.mul_add,Int.mul_one] at h3;omega
 ·have c1:=Zcp (g:=cs W (updN R a (R b))) (h:=cs W R) (p:=a) 16 ha (fun i _ e=>by rw [cs,cs,Zv _ _ e])
  have h1:cs W (updN R a (R b)) a<=cs W R a:=by
   unfold cs;rw [ZL];exact Int.mul_le_mul_of_nonneg_left (by have:=ma b hb nb.1;omega) (hW a ha)
  omega
 ·intro i hi ni;by_cases e:i=a
  ·subst e;rw [ZL];exact nl _
  ·rw [Zv _ _ e];exact mb i hi ⟨ni,e⟩
theorem Zks {W:Nat->Int} {M:Nat} {R:Nat->Nat} (h:Fit W M R) {p a:Nat} (hp:p<16) (ha:a<16) (hne:p ≠ a) (np:W p ≠ 0) (na:W a ≠ 0) (hw:W p<=W a) (hr:R p<=R a) :
 Fit W M (updN (updN R p (R a)) a (R p))/\tot (cs W (updN (updN R p (R a)) a (R p))) 16<=tot (cs W R) 16:=by
 have ep:updN (updN R p (R a)) a (R p) p=R a:=by rw [Zv _ _ hne,ZL]
 have ea:updN (updN R p (R a)) a (R p) a=R p:=ZL _ _ _;have eo:∀ i,i ≠ p->i ≠ a->updN (updN R p (R a)) a (R p) i=R i:=fun i h1 h2=>by rw [Zv _ _ h2,Zv _ _ h1]
 generalize updN (updN R p (R a)) a (R p)=R1 at *;refine ⟨⟨fun i hi ni=>?_,?_⟩,?_⟩
 ·by_cases e1:i=p
  ·subst e1;rw [ep];exact h.le a ha na
  ·by_cases e2:i=a
   ·subst e2;rw [ea];exact h.le p hp np
   ·rw [eo i e1 e2];exact h.le i hi ni
 ·have c:=ZcF (g:=kr W R1 M) (h:=kr W R M) hp ha hne (fun i _ h1 h2=>by rw [kr,kr,eo i h1 h2]);rw [ZaD np,ZaD na,ZaD np,ZaD na,ep,ea] at c;have:=h.sum;omega
 ·have c:=ZcF (g:=cs W R1) (h:=cs W R) hp ha hne (fun i _ h1 h2=>by rw [cs,cs,eo i h1 h2]);unfold cs at c |-
  rw [ep,ea] at c;have h1:0<=(W a - W p)*((R a:Int) - (R p:Int)):=Int.mul_nonneg (by omega) (by omega);rw [Int.sub_mul,Int.mul_sub,Int.mul_sub] at h1;omega
theorem ZqH {W:Nat->Int} {M:Nat} {R:Nat->Nat} (hW:∀ i,i<16->0<=W i) (h:Fit W M R) {p q:Nat} (hp:p<16) (hq:q<16) (hne:p ≠ q) (np:W p ≠ 0) (nq:W q ≠ 0)
 (lp:∀ i,i<16->W i ≠ 0->W p<=W i) (lq:∀ i,i<16->W i ≠ 0->i ≠ p->W q<=W i) :
 ∃ R1 y,Fit W M R1/\tot (cs W R1) 16<=tot (cs W R) 16/\R1 p=y/\R1 q=y:=by
 obtain ⟨R1,y,a,b,f1,c1,ha,hb,hab,na,nb,ea,eb,mx⟩:=Ztt hW h hp hq hne np nq
 have s1:∃ R2 b,Fit W M R2/\tot (cs W R2) 16<=tot (cs W R1) 16/\R2 p=y/\b<16/\b ≠ p/\W b ≠ 0/\R2 b=y/\∀ i,i<16->W i ≠ 0->R2 i<=y:=by
  by_cases e:R1 p=y
  ·by_cases e2:b=p
   ·exact ⟨R1,a,f1,Int.le_refl _,e,ha,by omega,na,ea,mx⟩
   ·exact ⟨R1,b,f1,Int.le_refl _,e,hb,e2,nb,eb,mx⟩
  ·have hpa:p ≠ a:=fun h=>e (by rw [h];exact ea)
   have hpb:b ≠ p:=fun h=>e (by rw [<-h];exact eb)
   obtain ⟨f2,c2⟩:=Zks f1 hp ha hpa np na (lp a ha na) (by rw [ea];exact mx p hp np);refine ⟨_,b,f2,c2,by rw [Zv _ _ hpa,ZL,ea],hb,hpb,nb,by rw [Zv _ _ (fun e=>hab e.symm),Zv _ _ hpb];exact eb,fun i hi ni=>?_⟩;by_cases e1:i=a
   ·subst e1;rw [ZL];exact mx p hp np
   ·rw [Zv _ _ e1];by_cases e2:i=p
    ·subst e2;rw [ZL,ea];exact nl _
    ·rw [Zv _ _ e2];exact mx i hi ni
 obtain ⟨R2,b,f2,c2,ep,hb,hbp,nb,eb,mx⟩:=s1;by_cases e:R2 q=y
 ·exact ⟨R2,y,f2,by omega,ep,e⟩
 ·have hqb:q ≠ b:=fun h=>e (by rw [h];exact eb)
  obtain ⟨f3,c3⟩:=Zks f2 hq hb hqb nq nb (lq b hb nb hbp) (by rw [eb];exact mx q hq nq);exact ⟨_,y,f3,by omega,by rw [Zv _ _ (fun e=>hbp e.symm),Zv _ _ hne];exact ep,by rw [Zv _ _ hqb,ZL];exact eb⟩
theorem ZqM {W:Nat->Int} {p q:Nat} (hne:p ≠ q):rW W p q (min p q)=W p+W q/\rW W p q (max p q)=0/\∀ i,i ≠ p->i ≠ q->rW W p q i=W i:=by
 refine ⟨ZD _ _ _,?_,fun i h1 h2=>?_⟩
 ·unfold rW;rw [Zg _ _ (by omega)];by_cases h:p<=q
  ·rw [show max p q=q by omega,ZD]
  ·rw [show max p q=p by omega,Zg _ _ (by omega),ZD]
 ·unfold rW;rw [Zg _ _ (by omega),Zg _ _ h2,Zg _ _ h1]
theorem ZjO {g h:Nat->Int} {p q:Nat} (hp:p<16) (hq:q<16) (hne:p ≠ q) (e:∀ i,i<16->i ≠ p->i ≠ q->g i=h i):tot g 16+h (min p q)+h (max p q)=tot h 16+g p+g q:=by
 have c:=ZcF hp hq hne e;by_cases h9:p<=q
 ·rw [show min p q=p by omega,show max p q=q by omega];omega
 ·rw [show min p q=q by omega,show max p q=p by omega];omega
theorem Zna {W:Nat->Int} {M:Nat} {R:Nat->Nat} (hW:∀ i,i<16->0<=W i) (h:Fit W M R) {p q y:Nat} (hp:p<16) (hq:q<16) (hne:p ≠ q) (np:W p ≠ 0) (nq:W q ≠ 0) (ep:R p=y) (eq:R q=y) :
 Fit (rW W p q) M (updN R (min p q) (y - 1))/\tot (cs (rW W p q) (updN R (min p q) (y - 1))) 16+W p+W q=tot (cs W R) 16:=by
 obtain ⟨w1,w2,w3⟩:=ZqM (W:=W) hne;have hyM:=h.le p hp np;rw [ep] at hyM;have hWp:=hW p hp;have hWq:=hW q hq;have nn:¬ rW W p q (min p q)=0:=by rw [w1];omega
 have hmm:max p q ≠ min p q:=by omega
 have hy:1<=y:=by
  rcases Nat.eq_zero_or_pos y with h0 | h0
  ·exfalso
   have c:=ZcF (g:=upd (upd (kr W R M) p 0) q 0) (h:=kr W R M) hp hq hne (fun i _ h1 h2=>by rw [Zg _ _ h2,Zg _ _ h1])
   have g0:=ZgK (W:=upd (upd (kr W R M) p 0) q 0) 16 (fun i _=>by
    unfold upd;split
    ·exact Int.le_refl _
    ·split
     ·exact Int.le_refl _
     ·exact ZuI _ _ _ _)
   rw [ZD,Zg _ _ hne,ZD,ZaD np,ZaD nq,ep,eq,h0] at c;have h1:=pow_pos M;have hs:=h.sum;rw [show M - 0=M from rfl] at c;omega
  ·exact h0
 refine ⟨⟨fun i hi ni=>?_,?_⟩,?_⟩
 ·by_cases e1:i=min p q
  ·rw [e1,ZL];omega
  ·rw [Zv _ _ e1];by_cases e2:i=max p q
   ·exact absurd (by rw [e2];exact w2) ni
   ·rw [w3 i (by omega) (by omega)] at ni;exact h.le i hi ni
 ·have c:=ZjO (g:=kr W R M) (h:=kr (rW W p q) (updN R (min p q) (y - 1)) M) hp hq hne (fun i _ h1 h2=>by rw [kr,kr,w3 i h1 h2,Zv _ _ (by omega)]);rw [ZaD np,ZaD nq,ep,eq,ZaD nn,ZL] at c;have e0:kr (rW W p q) (updN R (min p q) (y - 1)) M (max p q)=0:=by rw [kr,if_pos w2]
  have e1:(2:Int) ^ (M - (y - 1))=2 ^ (M - y)+2 ^ (M - y):=by
   rw [show M - (y - 1)=(M - y)+1 by omega,Int.pow_succ];omega
  have:=h.sum;omega
 ·have c:=ZjO (g:=cs W R) (h:=cs (rW W p q) (updN R (min p q) (y - 1))) hp hq hne (fun i _ h1 h2=>by rw [cs,cs,w3 i h1 h2,Zv _ _ (by omega)]);have e0:cs (rW W p q) (updN R (min p q) (y - 1)) (max p q)=0:=by rw [cs,w2,Int.zero_mul]
  have e1:cs (rW W p q) (updN R (min p q) (y - 1)) (min p q)+W p+W q=cs W R p+cs W R q:=by
   unfold cs;rw [w1,ZL,ep,eq,show ((y - 1:Nat):Int)=(y:Int) - 1 by omega,<-Int.add_mul,Int.mul_sub];omega
  omega
def hd:Nat->(Nat->Int)->Nat->Nat
 | 0,_=>fun _=>0
 | n+1,W=>if (lt2 W 16).2=-1 then fun _=>0 else fun i=>if i=(lt2 W 16).1.toNat\/i=(lt2 W 16).2.toNat then hd n (rW W (lt2 W 16).1.toNat (lt2 W 16).2.toNat) (min (lt2 W 16).1.toNat (lt2 W 16).2.toNat)+1 else hd n (rW W (lt2 W 16).1.toNat (lt2 W 16).2.toNat) i
theorem Zmj {n:Nat} {W:Nat->Int} (h:(lt2 W 16).2=-1):hd n W=fun _=>0:=by
 cases n with
 | zero=>rfl
 | succ n=>rw [hd,if_pos h]
theorem ZiD {n:Nat} {W:Nat->Int} {p q:Nat} (h:lt2 W 16=((p:Int),(q:Int))):hd (n+1) W=fun i=>if i=p\/i=q then hd n (rW W p q) (min p q)+1 else hd n (rW W p q) i:=by
 rw [hd,h,if_neg (by simp only;omega)];rfl
theorem ZsL:∀ n (W T L:Nat->Int),(∀ i,0<=T i)->∀ i,bldR n W T L i=L i+(hd n W (T i).toNat:Int):=by
 intro n
 induction n with
 | zero=>intro W T L _ i;rw [bldR,hd];simp
 | succ n ih =>
  intro W T L hT i;by_cases h:(lt2 W 16).2=-1
  ·rw [ZfA h,Zmj h];simp
  ·obtain ⟨p,q,hpq,hp,hq,hne,np,nq⟩:=Zcm h;rw [ZeL hpq,ZiD hpq,ih _ _ _ (fun j=>by unfold rT;split;omega;exact hT j)];have:=hT i;unfold rT rL;by_cases e:T i=p\/T i=q
   ·rw [if_pos e,if_pos e];simp only [Int.toNat_natCast];rw [if_pos (by omega)]
    push_cast
    omega
   ·rw [if_neg e,if_neg e];simp only;rw [if_neg (by omega)]
theorem ZfI (W:Nat->Int):∀ k,(∀ i,i<k->W i ≠ 0->(lt2 W k).1 ≠ -1/\W (lt2 W k).1.toNat<=W i)/\(∀ i,i<k->W i ≠ 0->(i:Int) ≠ (lt2 W k).1->(lt2 W k).2 ≠ -1/\W (lt2 W k).2.toNat<=W i):=by
 intro k
 induction k with
 | zero=>exact ⟨fun i h=>by omega,fun i h=>by omega⟩
 | succ k ih =>
  obtain ⟨i1,i2⟩:=ih;have hs:=ZdE W k;rw [lt2,ltS];generalize lt2 W k=P at *;obtain ⟨A,B⟩:=P;simp only at *;by_cases h0:W k=0
  ·rw [if_pos h0];refine ⟨fun i hi ni=>i1 i ?_ ni,fun i hi ni=>i2 i ?_ ni⟩ <;> (by_cases e:i=k;(subst e;exact absurd h0 ni);omega)
  ·rw [if_neg h0];by_cases h1:A=-1\/W k<W A.toNat
   ·rw [if_pos h1];simp only [Int.toNat_natCast];refine ⟨fun i hi ni=>⟨by omega,?_⟩,fun i hi ni ne=>?_⟩
    ·by_cases e:i=k
     ·subst e;exact Int.le_refl _
     ·have:=i1 i (by omega) ni;omega
    ·exact i1 i (by omega) ni
   ·rw [if_neg h1];by_cases h2:B=-1\/W k<W B.toNat
    ·rw [if_pos h2];simp only [Int.toNat_natCast];refine ⟨fun i hi ni=>?_,fun i hi ni ne=>⟨by omega,?_⟩⟩
     ·by_cases e:i=k
      ·subst e;omega
      ·exact i1 i (by omega) ni
     ·by_cases e:i=k
      ·subst e;exact Int.le_refl _
      ·have:=i2 i (by omega) ni ne;omega
    ·rw [if_neg h2];simp only;refine ⟨fun i hi ni=>?_,fun i hi ni ne=>?_⟩
     ·by_cases e:i=k
      ·subst e;omega
      ·exact i1 i (by omega) ni
     ·by_cases e:i=k
      ·subst e;omega
      ·exact i2 i (by omega) ni ne
theorem ZtC:∀ n (W:Nat->Int),(∀ i,i<16->0<=W i)->cnt W 16<=n->∀ M R,Fit W M R->tot (cs W (hd n W)) 16<=tot (cs W R) 16:=by
 intro n
 induction n with
 | zero =>
  intro W hW hc M R _;rw [hd,Zbj (h:=fun _=>0) 16 (fun i _=>by simp [cs])];have h1:tot (fun _=>(0:Int)) 16=0:=by simp [tot]
  rw [h1];exact ZgK 16 (fun i hi=>Int.mul_nonneg (hW i hi) (by omega))
 | succ n ih =>
  intro W hW hc M R hF;by_cases h:(lt2 W 16).2=-1
  ·rw [Zmj h,Zbj (h:=fun _=>0) 16 (fun i _=>by simp [cs])];have h1:tot (fun _=>(0:Int)) 16=0:=by simp [tot]
   rw [h1];exact ZgK 16 (fun i hi=>Int.mul_nonneg (hW i hi) (by omega))
  ·obtain ⟨p,q,hpq,hp,hq,hne,np,nq⟩:=Zcm h;obtain ⟨m1,m2⟩:=ZfI W 16;rw [hpq] at m1 m2;simp only [Int.toNat_natCast] at m1 m2;obtain ⟨R1,y,f1,c1,ep,eq⟩:=ZqH hW hF hp hq hne np nq (fun i hi ni=>(m1 i hi ni).2) (fun i hi ni e=>(m2 i hi ni (by omega)).2);obtain ⟨f2,c2⟩:=Zna hW f1 hp hq hne np nq ep eq;have c3:=(Zku hW hp hq hne np nq).1;have c4:=ih (rW W p q) (Zjv hW hp hq) (by omega) M _ f2;obtain ⟨w1,w2,w3⟩:=ZqM (W:=W) hne;rw [ZiD hpq]
   have c5:=ZjO (g:=cs W (fun i=>if i=p\/i=q then hd n (rW W p q) (min p q)+1 else hd n (rW W p q) i)) (h:=cs (rW W p q) (hd n (rW W p q))) hp hq hne (fun i _ h1 h2=>by
    rw [cs,cs,w3 i h1 h2,if_neg (by omega)])
   have e0:cs (rW W p q) (hd n (rW W p q)) (max p q)=0:=by rw [cs,w2,Int.zero_mul]
   have e1:cs (rW W p q) (hd n (rW W p q)) (min p q)+W p+W q=cs W (fun i=>if i=p\/i=q then hd n (rW W p q) (min p q)+1 else hd n (rW W p q) i) p+cs W (fun i=>if i=p\/i=q then hd n (rW W p q) (min p q)+1 else hd n (rW W p q) i) q:=by
    simp only [cs,true_or,or_true,if_true];rw [w1]
    push_cast
    rw [Int.add_mul,Int.mul_add,Int.mul_add];omega
   omega
theorem ZtY:∀ n (W:Nat->Int),(∀ i,i<16->0<=W i)->cnt W 16<=n->(∀ i,hd n W i+1<=cnt W 16\/hd n W i=0)/\(∀ i,i<16->W i=0->hd n W i=0)/\(∀ M,15<=M->1<=cnt W 16->tot (kr W (hd n W) M) 16=2 ^ M):=by
 intro n
 induction n with
 | zero =>
  intro W hW hc;rw [hd];exact ⟨fun i=>.inr rfl,fun i _ _=>rfl,fun M _ h=>by omega⟩
 | succ n ih =>
  intro W hW hc;by_cases h:(lt2 W 16).2=-1
  ·rw [Zmj h];refine ⟨fun i=>.inr rfl,fun i _ _=>rfl,fun M _ h1=>?_⟩
   -- one alone
   obtain ⟨m1,m2⟩:=ZfI W 16
   have alone:∀ i,i<16->W i ≠ 0->(i:Int)=(lt2 W 16).1:=fun i hi ni=>by
    by_cases e:(i:Int)=(lt2 W 16).1
    ·exact e
    ·exact absurd h (m2 i hi ni e).1
   obtain ⟨i,hi,ni⟩:∃ i,i<16/\W i ≠ 0:=by
    have:∀ k,1<=cnt W k->∃ i,i<k/\W i ≠ 0:=by
     intro k
     induction k with
     | zero=>intro h;simp [cnt] at h
     | succ k ih =>
      intro h;rw [cnt] at h;by_cases e:W k=0
      ·rw [if_pos e] at h;obtain ⟨i,hi,ni⟩:=ih (by omega);exact ⟨i,by omega,ni⟩
      ·exact ⟨k,by omega,e⟩
    exact this 16 h1
   have c:=Zcp (g:=kr W (fun _=>0) M) (h:=fun _=>0) (p:=i) 16 hi (fun j hj ne=>by
    rw [kr];by_cases e:W j=0
    ·rw [if_pos e]
    ·exfalso
     have a1:=alone j hj e;have a2:=alone i hi ni
     omega)
   rw [ZaD ni] at c;have z:tot (fun _=>(0:Int)) 16=0:=by simp [tot]
   simp only [Nat.sub_zero] at c;omega
  ·obtain ⟨p,q,hpq,hp,hq,hne,np,nq⟩:=Zcm h;obtain ⟨c3,_,c2⟩:=Zku hW hp hq hne np nq;obtain ⟨i1,i2,i3⟩:=ih (rW W p q) (Zjv hW hp hq) (by omega);obtain ⟨w1,w2,w3⟩:=ZqM (W:=W) hne;rw [ZiD hpq];refine ⟨fun i=>?_,fun i hi h0=>?_,fun M hM _=>?_⟩
   ·simp only;by_cases e:i=p\/i=q
    ·rw [if_pos e];have:=i1 (min p q);omega
    ·rw [if_neg e];have:=i1 i;omega
   ·simp only;have e1:i ≠ p:=fun e=>np (by rw [<-e];exact h0)
    have e2:i ≠ q:=fun e=>nq (by rw [<-e];exact h0)
    rw [if_neg (by omega)];exact i2 i hi (by rw [w3 i e1 e2];exact h0)
   ·have c:=ZjO (g:=kr W (fun i=>if i=p\/i=q then hd n (rW W p q) (min p q)+1 else hd n (rW W p q) i) M) (h:=kr (rW W p q) (hd n (rW W p q)) M) hp hq hne (fun i _ h1 h2=>by
     simp only [kr]
     rw [w3 i h1 h2,if_neg (show ¬ (i=p\/i=q) by omega)])
    have hWp:=hW p hp;have hWq:=hW q hq;have nn:¬ rW W p q (min p q)=0:=by rw [w1];omega
    rw [ZaD np,ZaD nq,ZaD nn] at c;have e0:kr (rW W p q) (hd n (rW W p q)) M (max p q)=0:=by rw [kr,if_pos w2]
    simp only [true_or,or_true,if_true] at c;have hb:=i1 (min p q);have hc16:=ZhB W 16
    have e1:(2:Int) ^ (M - hd n (rW W p q) (min p q))=2 ^ (M - (hd n (rW W p q) (min p q)+1))+2 ^ (M - (hd n (rW W p q) (min p q)+1)):=by
     rw [show M - hd n (rW W p q) (min p q)=(M - (hd n (rW W p q) (min p q)+1))+1 by omega,Int.pow_succ];omega
    have:=i3 M hM (by omega);omega
theorem Zsz {f c:Nat->Int}:∀ k,(∀ i,i<k->¬ (0<c i/\f i=0))->cst f c k=some (tot (fun i=>c i*f i) k):=by
 intro k
 induction k with
 | zero=>intro _;rfl
 | succ k ih =>
  intro h;rw [cst,ih (fun i hi=>h i (by omega))];simp only;rw [if_neg (h k (by omega)),tot]
theorem ZmF {f c:Nat->Int}:∀ k n,cst f c k=some n->(∀ i,i<k->¬ (0<c i/\f i=0))/\n=tot (fun i=>c i*f i) k:=by
 intro k
 induction k with
 | zero=>intro n h;simp [cst] at h;exact ⟨fun i h=>by omega,by rw [<-h];rfl⟩
 | succ k ih =>
  intro n h;rw [cst] at h
  cases hq:cst f c k with
  | none=>rw [hq] at h;simp at h
  | some m =>
   rw [hq] at h;simp only at h;split at h
   ·simp at h
   ·rename_i h9
    simp only [Option.some.injEq] at h;obtain ⟨h1,h2⟩:=ih m hq;refine ⟨fun i hi=>?_,by rw [tot,<-h2,<-h]⟩;by_cases e:i=k
    ·subst e;exact h9
    ·exact h1 i (by omega)
theorem ZmC (f:Nat->Int):∀ k,sm f k=tot (fun i=>wt (f i)) k:=by
 intro k
 induction k with
 | zero=>rfl
 | succ k ih=>rw [sm,tot,ih]
theorem Zfr {g h:Nat->Int}:∀ k,(∀ i,i<k->g i<=h i)->tot g k<=tot h k:=by
 intro k
 induction k with
 | zero=>intro _;exact Int.le_refl _
 | succ k ih=>intro e;rw [tot,tot];have:=e k (by omega);have:=ih (fun i hi=>e i (by omega));omega
theorem ZoA {r c:Nat->Int} (hr:chk r=0) (hn:∀ i,i<16->¬ (0<c i/\r i=0)) (hc:∀ i,i<16->0<=c i):Fit c 15 (fun i=>(r i).toNat):=by
 obtain ⟨h1,_,h3⟩:=Zd hr;refine ⟨fun i hi _=>by have:=h1 i hi;omega,?_⟩;rw [ZmC] at h3;refine Int.le_trans (Zfr 16 (fun i hi=>?_)) (show tot (fun i=>wt (r i)) 16<=2 ^ 15 from h3);have h4:=h1 i hi;have h5:=hc i hi;have h6:=hn i hi;rw [kr];split
 ·exact (wt_b h4.1 h4.2).1
 ·rw [Zfo (by omega)];refine ZbE ?_;omega
theorem ZjR (c:Nat->Int) (h:(bld c).2=0):chk (bld c).1=0/\(cost (bld c).1 c).2=0/\∀ r,(cost r c).2=0->(cost (bld c).1 c).1<=(cost r c).1:=by
 have hin:InR c 2048 16:=by
  by_cases h1:InR c 2048 16
  ·exact h1
  ·rw [bld,if_pos h1] at h;simp at h
 have hfst:(lt2 c 16).1 ≠ -1:=by
  intro h1;rw [bld,if_neg (fun h=>h hin),if_pos h1] at h;simp at h
 have hc:∀ i,i<16->0<=c i:=fun i hi=>(hin i hi).1
 have rest:∀ (L:Nat->Int),chk L=0->(∀ i,i<16->¬ (0<c i/\L i=0))->(∀ r,chk r=0->(∀ i,i<16->¬ (0<c i/\r i=0))->tot (fun i=>c i*L i) 16<=tot (fun i=>c i*r i) 16) →
  chk L=0/\(cost L c).2=0/\∀ r,(cost r c).2=0->(cost L c).1<=(cost r c).1:=by
  intro L h1 h2 h3
  have e1:cost L c=(tot (fun i=>c i*L i) 16,0):=by
   rw [cost,if_neg (fun h=>h h1),if_neg (fun h=>h hin),Zsz 16 h2]
  refine ⟨h1,by rw [e1],fun r hr=>?_⟩;rw [e1];unfold cost at hr |-
  by_cases r1:chk r=0
  ·rw [if_neg (fun h=>h r1),if_neg (fun h=>h hin)] at hr |-
   cases hq:cst r c 16 with
   | none=>rw [hq] at hr;simp at hr
   | some m =>
    obtain ⟨a1,a2⟩:=ZmF 16 m hq;simp only;rw [a2];exact h3 r r1 a1
  ·rw [if_pos r1] at hr;simp only at hr;exact absurd hr r1
 have hmn:=ZfI c 16;by_cases hsec:(lt2 c 16).2=-1
 ·
  have e:(bld c).1=upd (fun _=>0) (lt2 c 16).1.toNat 1:=by rw [bld,if_neg (fun h=>h hin),if_neg hfst,if_pos hsec]
  rw [e];obtain ⟨s1,_⟩:=ZdE c 16;rcases s1 with s1 | ⟨p,e1,hp,np⟩
  ·exact absurd s1 hfst
  rw [e1,Int.toNat_natCast]
  have alone:∀ i,i<16->c i ≠ 0->i=p:=fun i hi ni=>by
   by_cases e:(i:Int)=(lt2 c 16).1
   ·omega
   ·exact absurd hsec (hmn.2 i hi ni e).1
  have hsm:sm (upd (fun _=>0) p 1) 16=16384:=by
   rw [ZmC];have cc:=Zcp (g:=fun i=>wt (upd (fun _=>0) p 1 i)) (h:=fun _=>0) (p:=p) 16 hp (fun j hj ne=>by rw [Zg _ _ ne];exact Zdn (by omega));simp only at cc;rw [ZD,Zfo (by omega)] at cc;have z:tot (fun _=>(0:Int)) 16=0:=by simp [tot]
   have z2:(2:Int) ^ (15 - (1:Int)).toNat=16384:=by decide
   omega
  refine rest _ (Zhj (fun i hi=>?_) (by omega)) (fun i hi h9=>?_) (fun r r1 r2=>?_)
  ·by_cases e9:i=p
   ·rw [e9,ZD];omega
   ·rw [Zg _ _ e9];omega
  ·have:=alone i hi (by omega);subst this;rw [ZD] at h9;omega
  ·refine Zfr 16 (fun i hi=>?_);have h5:=hc i hi;have h4:=(Zd r1).1 i hi;by_cases e:c i=0
   ·rw [e];omega
   ·have e2:=alone i hi e;subst e2;rw [ZD];have:=r2 i hi;exact Int.mul_le_mul_of_nonneg_left (by omega) h5
 ·have e:(bld c).1=bldR 16 c (fun i=>i) (fun _=>0):=by rw [bld,if_neg (fun h=>h hin),if_neg hfst,if_neg hsec]
  have e2:∀ i,(bld c).1 i=(hd 16 c i:Int):=fun i=>by rw [e,ZsL 16 c _ _ (fun i=>by omega)];simp
  obtain ⟨p,q,hpq,hp,hq,hne,np,nq⟩:=Zcm hsec;obtain ⟨c3,_,c2⟩:=Zku hc hp hq hne np nq;obtain ⟨f1,f2,f3⟩:=ZtY 16 c hc (ZhB c 16);have f4:=f3 15 (nl _) (by omega);have c16:=ZhB c 16;have hb:∀ i,hd 16 c i<=15:=fun i=>by have:=f1 i;omega
  -- what weighs has a word
  have hw:∀ i,i<16->c i ≠ 0->1<=hd 16 c i:=fun i hi ni=>by
   rcases Nat.eq_zero_or_pos (hd 16 c i) with h0 | h0
   ·exfalso
    obtain ⟨j,hj,nj,hij⟩:∃ j,j<16/\c j ≠ 0/\i ≠ j:=by
     by_cases e:i=p
     ·exact ⟨q,hq,nq,by omega⟩
     ·exact ⟨p,hp,np,e⟩
    have cc:=ZcF (g:=upd (upd (kr c (hd 16 c) 15) i 0) j 0) (h:=kr c (hd 16 c) 15) hi hj hij (fun k _ h1 h2=>by rw [Zg _ _ h2,Zg _ _ h1])
    have g0:=ZgK (W:=upd (upd (kr c (hd 16 c) 15) i 0) j 0) 16 (fun k _=>by
     unfold upd;split
     ·exact Int.le_refl _
     ·split
      ·exact Int.le_refl _
      ·exact ZuI _ _ _ _)
    rw [ZD,Zg _ _ hij,ZD,ZaD ni,ZaD nj,h0] at cc;have:=pow_pos (15 - hd 16 c j);rw [show 15 - 0=15 from rfl] at cc;omega
   ·exact h0
  have hsm:sm (bld c).1 16=32768:=by
   rw [ZmC,Zbj (h:=kr c (hd 16 c) 15) 16 (fun i hi=>?_),f4]
   ·rfl
   ·rw [e2 i,kr];by_cases ni:c i=0
    ·rw [if_pos ni,f2 i hi ni];exact Zdn (by omega)
    ·have:=hw i hi ni;have h15:=hb i;rw [if_neg ni,Zfo (by omega)]
     congr 1
     omega
  refine rest _ (Zhj (fun i hi=>?_) (by omega)) (fun i hi h9=>?_) (fun r r1 r2=>?_)
  ·rw [e2 i];have:=hb i;omega
  ·rw [e2 i] at h9;have:=hw i hi (by omega);omega
  ·have b:=ZtC 16 c hc (ZhB c 16) 15 _ (ZoA r1 r2 hc);rw [Zbj (h:=cs c (hd 16 c)) 16 (fun i hi=>by rw [cs,e2 i])];refine Int.le_trans b (Int.le_of_eq (Zbj 16 (fun i hi=>?_)));have h4:=(Zd r1).1 i hi;rw [cs,Int.toNat_of_nonneg h4.1]
end Go.Proofs.YtbjbjbpgmojcbabGreat.Cd
