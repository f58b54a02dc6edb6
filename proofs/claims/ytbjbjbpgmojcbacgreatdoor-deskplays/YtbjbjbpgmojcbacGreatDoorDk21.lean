/- A part of the proof: what it leans on. -/
import Derived.Test.YtbjbjbpgmojcbacGreatDoorDk20
set_option maxRecDepth 8000
set_option maxHeartbeats 8000000
namespace Go.Proofs.YtbjbjbpgmojcbacGreatDoor
open Ar Bk Cd Dk Im Tk Tr Vy
open Tryz
variable{a:Ar.A}{s:ByteArray}{t:List UInt8}{f k:Nat}{x y:Value}{w:World}
open Go.RowKit
theorem aH(a b:List UInt8):(⟨a.toArray⟩:ByteArray)++⟨b.toArray⟩=⟨(a++b).toArray⟩:=by
 apply ZN;simp
theorem aj(a:List UInt8):(⟨a.toArray⟩:ByteArray).size=a.length:=by rw[Zf]
theorem Ui(ad af:Option Addr)(cd cf:Nat)(a:Ar.A)(w:World)(h:bo w ad af a)(hk:Vz a=0) :
 CB 45 #[av ad cd af cf a] w (.string (WU a)):=by
 obtain⟨hok,hlen⟩:=YO hk;have HX:=Za λw' (hb:ae w w') k (hk:k<a.aa.length)=>(h.below hb).ds.at hk
 have cy:=Za λw' (h9:ae w w') k (hk:k<a.files.length)=>(h.below h9).fs.at hk
 have HD:Hid (∀k,k<a.aa.length->(⟨(W9 a (k+1)).toArray⟩:ByteArray)=⟨(W9 a k).toArray⟩++⟨(Im.tb (VA a.aa k)).toArray⟩/\(VA a.aa k).size<=512/\(⟨(Im.tb (VA a.aa k)).toArray⟩:ByteArray).size<=600):=λk hk=>by
  have h5:(VA a.aa k).size<=512:=by rw[show VA a.aa k=a.aa[k] by simp[VA,hk]];exact hok.ds _ (gM hk)
  exact⟨by rw[aH,Gh hk],h5,by rw[aj];have:=aah h5 (by omega);omega⟩
 have HF:Hid (∀k,k<a.files.length->(⟨(pF a (k+1)).toArray⟩:ByteArray)=⟨(pF a k).toArray⟩++⟨(Im.tb (Nm a.files k).name).toArray⟩++⟨(VB (Nm a.files k).dict.toNat).toArray⟩++⟨(VB (Nm a.files k).size.toNat).toArray⟩++⟨(VB (Nm a.files k).sum.toNat).toArray⟩++⟨(Im.tb (Nm a.files k).blk).toArray⟩/\aaI (Nm a.files k)/\(⟨(Im.tb (Nm a.files k).name).toArray⟩:ByteArray).size<=8000/\(⟨(Im.tb (Nm a.files k).blk).toArray⟩:ByteArray).size<=8000/\(⟨(VB (Nm a.files k).dict.toNat).toArray⟩:ByteArray).size<=8000/\(⟨(VB (Nm a.files k).size.toNat).toArray⟩:ByteArray).size<=8000/\(⟨(VB (Nm a.files k).sum.toNat).toArray⟩:ByteArray).size<=8000):=λk hk9=>by
  obtain⟨o,n1,n2⟩:=aac hk hk9;obtain⟨_,⟨_,q1⟩,⟨_,q2⟩,⟨_,q3⟩,_⟩:=id o;have t1:=aah n1 (by omega);have t2:=aah n2 (by omega);have m1:=V3 (Nm a.files k).dict.toNat (by omega);have m2:=V3 (Nm a.files k).size.toNat (by omega);have m3:=V3 (Nm a.files k).sum.toNat (by omega);refine⟨?_,o,?_,?_,?_,?_,?_⟩
  ·rw[aH,aH,aH,aH,aH,Gj hk9];unfold kP;simp only[List.append_assoc]
  all_goals rw[aj];omega
 have qA:Hid (∀k,(⟨(W9 a k).toArray⟩:ByteArray).size<=200000):=λk=>by show _<=_;rw[aj];have:=Gp a k;omega
 have vQ:Hid (∀k,(⟨(pF a k).toArray⟩:ByteArray).size<=200000):=λk=>by show _<=_;rw[aj];have:=Gq a k;omega
 have hnd:=hok.nd;have hnf:=hok.nf;have HN:(⟨(VB a.aa.length).toArray⟩:ByteArray).size<=5:=by rw[aj];exact V3 _ (by omega)
 have HM:(⟨(VB a.files.length).toArray⟩:ByteArray).size<=5:=by rw[aj];exact V3 _ (by omega)
 have H0:Hid ((⟨#[112,114,101,115,115]⟩:ByteArray)++⟨(VB a.aa.length).toArray⟩=⟨(W9 a 0).toArray⟩):=by
  show _=_;rw[show(⟨#[112,114,101,115,115]⟩:ByteArray)=⟨XV.toArray⟩ from rfl,aH];unfold W9;simp[aaJ]
 have H1:Hid ((⟨(W9 a a.aa.length).toArray⟩:ByteArray)++⟨(VB a.files.length).toArray⟩=⟨(pF a 0).toArray⟩):=by show _=_;rw[aH,Gm]
 have H2:Hid ((⟨(pF a a.files.length).toArray⟩:ByteArray)=WU a):=by show _=_;rw[Gn];rfl
 have CD:=λw=>ZF a.aa.length a.aa.length w (by omega) (by omega) (by omega)
 have CN:=λw=>ZF a.files.length a.files.length w (by omega) (by omega) (by omega)
 simp only[Int.toNat_natCast]at CD CN;have XA:=Bx.new w (.slice ad a.aa.length cd) (.slice af a.files.length cf);have B1:=Zb w (.cells #[.slice ad a.aa.length cd,.slice af a.files.length cf] 35 (0,0));clear h hk hok hlen;unfold av;generalize (⟨(VB a.aa.length).toArray⟩:ByteArray)=sN at*;generalize (⟨(VB a.files.length).toArray⟩:ByteArray)=sM at*
 obtain⟨ps,Iv⟩:∃ps:Nat->ByteArray,ps=λk=>⟨(W9 a k).toArray⟩:=⟨_,rfl⟩
 obtain⟨qs,Iw⟩:∃qs:Nat->ByteArray,qs=λk=>⟨(pF a k).toArray⟩:=⟨_,rfl⟩
 have HP:∀k,(⟨(W9 a k).toArray⟩:ByteArray)=ps k:=λk=>by rw[Iv]
 have HQ:∀k,(⟨(pF a k).toArray⟩:ByteArray)=qs k:=λk=>by rw[Iw]
 simp only[HP,HQ]at HD HF qA vQ H0 H1 H2;clear HP HQ Iv Iw;generalize WU a=IM at*;generalize a.aa.length=D at*;generalize a.files.length=N at*;go_enter func45,ntmps45
 go_wp2_with fail
 generalize (w.alloc (.cells #[.slice ad D cd,.slice af N cf] 35 (0,0)))=w0 at*;refine mo (CD _) λw1 G=>?_
 have wv:=XA.next G;have B2:=ag B1 G;clear XA B1 G CD;have x0:=wv.c0;have x1:=wv.c1;go_wp2_with fail
 clear x0 x1;rw[H0.out];go_loopw [3,4] (λs i wr=>∃k:Nat,k<=D/\s=.string (ps k)/\i=.int .i64 k/\ae w wr/\Bx wr w.heap.size (.slice ad D cd) (.slice af N cf)) (λ_ i _=>D-(intOf i).toNat)
 case atStart=>exact⟨0,by omega,rfl,rfl,B2,wv⟩
 case round =>
  clear B2 wv;obtain⟨k,hk2,rfl,rfl,B3,X3⟩:=hrel;have x0:=X3.c0;have x1:=X3.c1;by_cases hlt:k<D
  ·have d1:decide ((k:Int)<(D:Int))=true:=al (by omega);have d1':=al hlt;have hki:(k:Int)<(D:Int):=by omega
   obtain⟨b,off,rfl,hbl,hcell⟩:=HX.out wr B3 k hlt;obtain⟨e1,e2,e3⟩:=HD.out k hlt;have e4:=qA.out k
   have HE:=(show Hid _ from e1)
   clear e1;generalize VA a.aa k=X at*;have C:=Bu X wr (by omega);generalize (⟨(Im.tb X).toArray⟩:ByteArray)=T at*;go_wp2_with fail
   refine mo C λw3 G=>?_
   have B4:=ag B3 G;have X4:=X3.next G;clear C B3 X3 x0 x1 G hcell;generalize hps:ps k=S at*;go_wp2_with fail
   go_roundw
   case rel=>exact⟨k+1,by omega,by rw[HE.out],by go_num,B4,X4⟩
   case measure=>simp[intOf];omega
  ·obtain rfl:k=D:=by omega
   have d1:decide ((k:Int)<(k:Int))=false:=by simp
   have d1':decide (k<k)=false:=by simp
   have e4:=qA.out k
   have HH:=(show Hid _ from H1.out)
   generalize ps k=S at*;go_wp2_with fail
   refine mo (CN _) λw3 G=>?_
   have B4:=ag B3 G;have X4:=X3.next G;clear B3 X3 x0 x1 G;go_wp2_with fail
   rw[HH.out];go_loopw [3,5] (λs i wr=>∃m:Nat,m<=N/\s=.string (qs m)/\i=.int .i64 m/\ae w wr/\Bx wr w.heap.size (.slice ad k cd) (.slice af N cf)) (λ_ i _=>N-(intOf i).toNat)
   case atStart=>exact⟨0,by omega,rfl,rfl,B4,X4⟩
   case round =>
    clear B4 X4;obtain⟨m,hm2,rfl,rfl,B5,X5⟩:=hrel;have x0:=X5.c0;have x1:=X5.c1;by_cases hlt:m<N
    ·have d2:decide ((m:Int)<(N:Int))=true:=al (by omega);have eJ:=al hlt;have jQ:(m:Int)<(N:Int):=by omega
     obtain⟨b,off,rfl,hbl,c0,c1,c2,c3,c4⟩:=cy.out wr B5 m hlt;obtain⟨e1,⟨o0,⟨o1,o7⟩,⟨o2,Uj⟩,⟨o3,Uk⟩,o4⟩,l0,l4,l1,l2,l3⟩:=HF.out m hlt;have e4:=vQ.out m
     have HE:=(show Hid _ from e1)
     clear e1;generalize (Nm a.files m).name=f0 at*;generalize (Nm a.files m).dict=f1 at*;generalize (Nm a.files m).size=f2 at*;generalize (Nm a.files m).sum=f3 at*;generalize (Nm a.files m).blk=f4 at*;have C0:=λw=>Bu f0 w (by omega)
     have C4:=λw=>Bu f4 w (by omega)
     have C1:=λw=>ZF f1.toNat f1 w o1 (by omega) o7
     have C2:=λw=>ZF f2.toNat f2 w o2 (by omega) Uj
     have C3:=λw=>ZF f3.toNat f3 w o3 (by omega) Uk
     generalize (⟨(Im.tb f0).toArray⟩:ByteArray)=t0 at*;generalize (⟨(Im.tb f4).toArray⟩:ByteArray)=t4 at*;generalize (⟨(VB f1.toNat).toArray⟩:ByteArray)=t1 at*;generalize (⟨(VB f2.toNat).toArray⟩:ByteArray)=t2 at*;generalize (⟨(VB f3.toNat).toArray⟩:ByteArray)=t3 at*;have lT:=FB.new wr 73 (.string f0) (.int .i64 f1) (.int .i64 f2) (.int .i64 f3) (.string f4);have GF:=Zb wr (.cells #[.string f0,.int .i64 f1,.int .i64 f2,.int .i64 f3,.string f4] 73 (0,0));have B6:=ag B5 GF;have X6:=X5.next GF;generalize qs m=S at*;go_wp2_with fail
     clear x0 x1 B5 X5 GF c0 c1 c2 c3 c4;generalize (wr.alloc (.cells #[.string f0,.int .i64 f1,.int .i64 f2,.int .i64 f3,.string f4] 73 (0,0)))=z0 at*;generalize wr.heap.size=bF at*;have tX:=lT.lt
     have cj:Hid (∀w',ae z0 w'->(λw':World=>w'.cell? ⟨bF,0,none⟩=some (.string f0)/\w'.cell? ⟨bF,1,none⟩=some (.int .i64 f1)/\w'.cell? ⟨bF,2,none⟩=some (.int .i64 f2)/\w'.cell? ⟨bF,3,none⟩=some (.int .i64 f3)/\w'.cell? ⟨bF,4,none⟩=some (.string f4)) w'):=λw' h9=>⟨(h9.cell (p:=⟨bF,0,none⟩) tX).trans (lT.c 0 (by omega)),(h9.cell (p:=⟨bF,1,none⟩) tX).trans (lT.c 1 (by omega)),(h9.cell (p:=⟨bF,2,none⟩) tX).trans (lT.c 2 (by omega)),(h9.cell (p:=⟨bF,3,none⟩) tX).trans (lT.c 3 (by omega)),(h9.cell (p:=⟨bF,4,none⟩) tX).trans (lT.c 4 (by omega))⟩
     clear lT;have b1:¬9223372036854775807<S.size+t0.size:=by omega
     have b2:¬9223372036854775807<S.size+t0.size+t1.size:=by omega
     have b3:¬9223372036854775807<S.size+t0.size+t1.size+t2.size:=by omega
     have b4:¬9223372036854775807<S.size+t0.size+t1.size+t2.size+t3.size:=by omega
     have b5:¬9223372036854775807<S.size+t0.size+t1.size+t2.size+t3.size+t4.size:=by omega
     have G0:=(bR z0.heap.size z0).drew;refine wp_region_held_drew (S:=λw'=>w'.cell? ⟨bF,0,none⟩=some (.string f0)/\w'.cell? ⟨bF,1,none⟩=some (.int .i64 f1)/\w'.cell? ⟨bF,2,none⟩=some (.int .i64 f2)/\w'.cell? ⟨bF,3,none⟩=some (.int .i64 f3)/\w'.cell? ⟨bF,4,none⟩=some (.string f4)) (by kernel_rfl) (cj.out _ G0) (λhS=>?_);refine aE 0 21 (.string S) rfl (λw' ⟨k1,k2,k3,k4,k5⟩=>by go_simp) hS ?_;refine aE 1 20 (.pointer (some ⟨bF,0,none⟩)) rfl (λw' ⟨k1,k2,k3,k4,k5⟩=>by go_simp) hS ?_;refine aE 2 19 (.string f0) rfl (λw' ⟨k1,k2,k3,k4,k5⟩=>by go_simp) hS ?_;refine aE 5 18 (.pointer (some ⟨bF,1,none⟩)) rfl (λw' ⟨k1,k2,k3,k4,k5⟩=>by go_simp) hS ?_;refine aE 6 17 (.int .i64 f1) rfl (λw' ⟨k1,k2,k3,k4,k5⟩=>by go_simp) hS ?_;refine aE 9 16 (.pointer (some ⟨bF,2,none⟩)) rfl (λw' ⟨k1,k2,k3,k4,k5⟩=>by go_simp) hS ?_;refine aE 10 15 (.int .i64 f2) rfl (λw' ⟨k1,k2,k3,k4,k5⟩=>by go_simp) hS ?_;refine aE 13 14 (.pointer (some ⟨bF,3,none⟩)) rfl (λw' ⟨k1,k2,k3,k4,k5⟩=>by go_simp) hS ?_;refine aE 14 13 (.int .i64 f3) rfl (λw' ⟨k1,k2,k3,k4,k5⟩=>by go_simp) hS ?_;refine aE 17 12 (.pointer (some ⟨bF,4,none⟩)) rfl (λw' ⟨k1,k2,k3,k4,k5⟩=>by go_simp) hS ?_;refine aE 18 11 (.string f4) rfl (λw' ⟨k1,k2,k3,k4,k5⟩=>by go_simp) hS ?_;refine aR 3 10 rfl λK hK=>?_
     go_simp
     go_at_call 84
     refine mo (C0 _) λw5 H1=>?_
     have G1:=ag G0 H1;refine hK.out _ _ (cj.out _ G1) (λhS1=>?_);clear hK H1;refine aE 4 9 (.string (S++t0)) rfl (λw' ⟨k1,k2,k3,k4,k5⟩=>by go_simp) hS1 ?_;refine aR 7 8 rfl λK hK=>?_
     go_simp
     go_at_call 83
     refine mo (C1 _) λw6 H2=>?_
     have G2:=ag G1 H2;refine hK.out _ _ (cj.out _ G2) (λhS2=>?_);clear hK H2;refine aE 8 7 (.string (S++t0++t1)) rfl (λw' ⟨k1,k2,k3,k4,k5⟩=>by go_simp) hS2 ?_;refine aR 11 6 rfl λK hK=>?_
     go_simp
     go_at_call 83
     refine mo (C2 _) λw7 H3=>?_
     have G3:=ag G2 H3;refine hK.out _ _ (cj.out _ G3) (λhS3=>?_);clear hK H3;refine aE 12 5 (.string (S++t0++t1++t2)) rfl (λw' ⟨k1,k2,k3,k4,k5⟩=>by go_simp) hS3 ?_;refine aR 15 4 rfl λK hK=>?_
     go_simp
     go_at_call 83
     refine mo (C3 _) λw8 H4=>?_
     have G4:=ag G3 H4;refine hK.out _ _ (cj.out _ G4) (λhS4=>?_);clear hK H4;refine aE 16 3 (.string (S++t0++t1++t2++t3)) rfl (λw' ⟨k1,k2,k3,k4,k5⟩=>by go_simp) hS4 ?_;refine aR 19 2 rfl λK hK=>?_
     go_simp
     go_at_call 84
     refine mo (C4 _) λw9 H5=>?_
     have G5:=ag G4 H5;refine hK.out _ _ (cj.out _ G5) (λhS5=>?_);clear hK H5;refine aE 20 1 (.string (S++t0++t1++t2++t3++t4)) rfl (λw' ⟨k1,k2,k3,k4,k5⟩=>by go_simp) hS5 ?_;refine aR 21 0 rfl λK hK=>?_
     go_simp
     refine hK.out _ _ hS5 (λ_=>?_);clear hK;refine⟨by kernel_rfl,?_⟩;have B9:=ag B6 G5;have X9:=X6.next G5;clear B6 X6 G0 G1 G2 G3 G4 G5 cj hS hS1 hS2 hS3 hS4 hS5;go_wp2_with fail
     go_roundw
     case rel=>exact⟨m+1,by omega,by rw[HE.out],by go_num,B9,X9⟩
     case measure=>simp[intOf];omega
    ·obtain rfl:m=N:=by omega
     have d2:decide ((m:Int)<(m:Int))=false:=by simp
     have eJ:decide (m<m)=false:=by simp
     rw[H2.out];go_wp2_with fail
     go_ret
     exact⟨rfl,B5⟩
theorem Ix(ad af:Option Addr)(cd cf:Nat)(a:Ar.A)(w:World)(h:bo w ad af a)(hs:ao a) :
 CB 26 #[av ad cd af cf a] w (.tuple #[.string (VT a),.int .i64 (aV a)]):=by
 have B1:=Zb w (.cells #[.slice ad a.aa.length cd,.slice af a.files.length cf] 35 (0,0));have XA:=Bx.new w (.slice ad a.aa.length cd) (.slice af a.files.length cf);have CK:=Zn ad af cd cf a _ (h.below B1) hs;by_cases hk:Vz a=0
 ·have CI:=Za λw' (h9:ae w w')=>Ui ad af cd cf a w' (h.below h9) hk
  rw[hk]at CK;have e0:aV a=if 16384<(WU a).size then 2 else 0:=by unfold aV;rw[ab (by simpa using hk)]
  have e9:VT a=if 16384<(WU a).size then⟨#[]⟩ else WU a:=by
   unfold VT;rw[e0];by_cases hb:16384<(WU a).size
   ·rw[ax hb,ab (by decide),ax hb]
   ·rw[ab hb,ax rfl,ab hb]
  rw[e0,e9];clear e0 e9 hk h hs;unfold av at CK CI |-
  generalize WU a=im at*;generalize a.aa.length=D at*;generalize a.files.length=N at*;by_cases hb:16384<im.size
  ·rw[ax hb,ax hb];have d1:decide ((16384:Int)<(im.size:Int))=true:=al (by omega);go_enter func26,ntmps26
   go_wp2_with fail
   refine mo CK λw1 G=>?_
   have B2:=ag B1 G;have X2:=XA.next G;have x0:=X2.c0;have x1:=X2.c1;go_wp2_with fail
   refine mo (CI.out _ B2) λw2 G2=>?_
   go_wp2_with fail
   go_ret2
   exact⟨rfl,ag B2 G2⟩
  ·rw[ab hb,ab hb];have d1:decide ((16384:Int)<(im.size:Int))=false:=dF (by omega);go_enter func26,ntmps26
   go_wp2_with fail
   refine mo CK λw1 G=>?_
   have B2:=ag B1 G;have X2:=XA.next G;have x0:=X2.c0;have x1:=X2.c1;go_wp2_with fail
   refine mo (CI.out _ B2) λw2 G2=>?_
   go_wp2_with fail
   go_ret2
   exact⟨rfl,ag B2 G2⟩
 ·have e1:aV a=Vz a:=by unfold aV;rw[ax hk]
  have e2:VT a=⟨#[]⟩:=by unfold VT;rw[e1,ab hk]
  rw[e1,e2];have dk:(Vz a==0)=false:=by simpa using hk
  unfold av at CK |-
  generalize Vz a=ck at*;generalize a.aa.length=D at*;generalize a.files.length=N at*;clear h hs;go_enter func26,ntmps26
  go_wp2_with fail
  refine mo CK λw1 G=>?_
  go_wp2_with fail
  go_ret2
  exact⟨rfl,ag B1 G⟩
theorem Ul(ad af:Option Addr)(cd cf:Nat)(a:Ar.A)(w:World)(h:bo w ad af a)(hs:ao a)(hc:Vz a≠0) :
 Calls prog 27 #[av ad cd af cf a] w λe w'=>ah w VC (Vz a) e w':=by
 have C1:=Za λw' (h9:ae w w')=>Zn ad af cd cf a w' (h.below h9) hs
 have hQ:Hid (∀w',ae w w'->ah w VC (Vz a) (.returned (.tuple #[.agg #[.slice none 0 0,.slice none 0 0],.int .i64 (Vz a)])) w'):=λw' h9=>ZC h9
 generalize ah w VC (Vz a)=Q at*;unfold av at C1 |-
 generalize Vz a=E at*;have e1:(E != 0)=true:=by simpa using hc
 have e2:(E==0)=false:=by simpa using hc
 generalize a.aa.length=D at*;generalize a.files.length=N at*;clear h hs hc;go_enter func27,ntmps27
 go_wp2_with fail
 refine mo (C1.out _ (Fr.start w _ _).b) λw1 G1=>?_
 have F1:=(Fr.start w _ _).next G1;clear G1;obtain⟨b,a0,a1,r0,r1,z0,z1,hz⟩:=id F1;go_wp2_with fail
 rw[F1.zero];exact bodyPost_ret (v:=.tuple #[.agg #[.slice none 0 0,.slice none 0 0],.int .i64 E]) (by simp[results,results27,go_sem,F1.r0,F1.r1]) rfl (hQ.out _ F1.b)
theorem Um(ad af:Option Addr)(cd cf:Nat)(a:Ar.A)(w:World)(h:bo w ad af a)(hs:ao a)(hc:Vz a=0) :
 Calls prog 27 #[av ad cd af cf a] w λe w'=>ah w ⟨VZ a a.aa.length,a.files.map (bU a a.aa.length)⟩ 0 e w':=by
 obtain⟨i0,hi,hz0,hz1,hz2⟩:=info_parts (P:=prog) (e:=9) (z:=.string ⟨#[]⟩) (size:=1) (bytes:=16) (by kernel_rfl);obtain⟨j0,gi,ej,dX,ek⟩:=info_parts (P:=prog) (e:=73) (z:=.agg #[.string ⟨#[]⟩,.int .i64 0,.int .i64 0,.int .i64 0,.string ⟨#[]⟩]) (size:=5) (bytes:=56) (by kernel_rfl);obtain⟨m1,m2,m3⟩:=Zj.1 (VV.1 hc).1;have C1:=Za λw' (h9:ae w w')=>Zn ad af cd cf a w' (h.below h9) hs
 have HX:=Za λw' (hb:ae w w') k (hk:k<a.aa.length)=>(h.ds.below hb).at hk
 have cy:Hid (∀w',ae w w'->∀k,k<a.files.length->∃b off,af=some ⟨b,off,none⟩/\b<w'.heap.size/\w'.cell? ⟨b,off+k*5+1,none⟩=some (.int .i64 (Nm a.files k).dict)):=λw' h9 k hk=>by
  obtain⟨b,off,h1,h2,h3⟩:=(h.fs.below h9).at hk;exact⟨b,off,h1,h2,h3.c1⟩
 have Bv:=Za λw' (h9:ae w w')=>(h.fs.below h9).news
 have mm:Hid ((aw a.files).length=a.files.length*5):=iF _;have HF2:Hid (∀u∈aw a.files,u.oneCell'=true):=sQ _;rw[hc]at C1;unfold av at C1 |-
 obtain⟨D,hD⟩:∃D,a.aa.length=D:=⟨_,rfl⟩
 obtain⟨N,hN⟩:∃N,a.files.length=N:=⟨_,rfl⟩
 have cK:=Za hN;rw[hD]at C1 HX m1 |-
 rw[hN]at C1 cy Bv mm m2 |-
 have hQ:Hid (∀v1 v2 w',w'.ownsRow w.heap.size 9 1 v1 (VZ a D).length ((VZ a D).map Value.string)->w'.ownsRow w.heap.size 73 5 v2 N (aw (a.files.map (bU a D)))->(∀j,v1.ownBlock=some j->v2.ownBlock≠some j)->ae w w'->ah w ⟨VZ a D,a.files.map (bU a D)⟩ 0 (.returned (.tuple #[.agg #[v1,v2],.int .i64 0])) w'):=λv1 v2 w' k1 k2 k3 k4=>⟨v1,v2,rfl,⟨k1,by show w'.ownsRow _ _ _ _ (a.files.map (bU a D)).length _;rw[List.length_map,hN];exact k2,k3⟩,k4⟩
 generalize ah w ⟨VZ a D,a.files.map (bU a D)⟩ 0=Q at*;have HI0:Hid (∀k,aw (a.files.map (bU a k))=aw (dh a k 0)):=λk=>by rw[FH]
 have s8:Hid (∀k,aw (dh a k N)=aw (a.files.map (bU a (k+1)))):=λk=>by rw[<-hN,FI]
 have H0:Hid (aw (a.files.map (bU a 0))=aw a.files):=by show _=_;rw[Rf]
 clear h hs hc m3 hD hN;have hDi:(D:Int)<=4:=by omega
 have hNi:(N:Int)<=12:=by omega
 generalize Un:aw a.files=az at*;clear Un;go_enter func27,ntmps27
 go_wp2_with fail
 refine mo (C1.out _ (Fr.start w _ _).b) λw3 G1=>?_
 have F1:=(Fr.start w _ _).next G1;clear G1 C1;obtain⟨b,a0,a1,r0,r1,z0,z1,hz⟩:=id F1;have j5:w.heap.size<w3.heap.size:=by omega
 have O0:=vW w3 w3.heap.size 73 5 (nl _);have hD2:=Bv.out _ (F1.b.alloc (by have:=F1.b.size;omega) (.cells #[] 73 (0,0)));have fV:=mm.out;have fW:=HF2.out
 go_wp2_with (first
  |(at_builtin;refine vV rfl _ _ 33 rfl w3.heap.size 73 j0 (.agg #[.string ⟨#[]⟩,.int .i64 0,.int .i64 0,.int .i64 0,.string ⟨#[]⟩]) 5 56 eX gi ej dX ek rfl (by decide) w3.heap.size 0 0 [] rfl O0 af N cf az rfl fV hD2 fW (by unfold maxLen;omega) (by omega) (by simp) _ rfl ?_;intro g2 cp2 w5 hown5 aB bc)
  |fail)
 have BX:=((bR _ _).alloc (nl _) _).grown aB (by simp) (λj hj=>by simp at hj;omega);simp only[Nat.zero_add,List.nil_append]at hown5 |-
 have S0:=cx.new2 BX BX.size hown5;clear O0 hD2 fV fW aB bc hown5 Bv mm HF2 BX a0 a1 r0 r1 z0 z1 b;generalize (w5.alloc (.cells #[.slice none 0 0,.slice (some ⟨g2,0,none⟩) N cp2] 35 (0,0)))=w6 at*;generalize w5.heap.size=C at*;go_loopw [6] (λi wr=>∃(k:Nat) (v1:Value),k<=D/\i=.int .i64 ((k:Int)+1)/\cx w3 wr C w3.heap.size v1 (.slice (some ⟨g2,0,none⟩) N cp2) (VZ a k).length N ((VZ a k).map Value.string) (aw (a.files.map (bU a k)))) (λi _=>D+1-(intOf i).toNat)
 case atStart=>exact⟨0,_,by omega,rfl,by rw[H0.out];exact S0⟩
 case round =>
  clear S0;obtain⟨k,v1,hk2,rfl,S1⟩:=hrel;have F7:=F1.keep S1.bel hz;obtain⟨B7,a0,a1,r0,r1,z0,z1,ed⟩:=id F7;by_cases hlt:k<D
  ·have d1:decide ((k:Int)+1<=(D:Int))=true:=al (by omega);have hki:(k:Int)+1<=(D:Int):=by omega
   have Vw:(k:Int)<(D:Int):=by omega
   have Uo:IntKind.i64.wrap (k:Int)=(k:Int):=IntWalk.i64_in _ ⟨by omega,by omega⟩;have hwk:IntKind.i64.wrap ((k:Int)+1-1)=(k:Int):=by rw[show(k:Int)+1-1=(k:Int) by omega];exact IntWalk.i64_in _ ⟨by omega,by omega⟩
   obtain⟨b9,off,rfl,hbl,hc⟩:=HX.out wr B7 k hlt;generalize hX:VA a.aa k=X at*;have mB:=Za hX;clear hX;have Iy:Hid (∀m,Ar.gg a.files ((k:Int)+1) (m+1)=(Ar.gg a.files ((k:Int)+1) m||decide ((Nm a.files m).dict=(k:Int)+1))):=λm=>rfl
   have Iz:Hid (Ar.gg a.files ((k:Int)+1) 0=false):=rfl;have IA:Hid (Ar.gg a.files ((k:Int)+1) N=XK a ((k+1:Nat):Int)):=by show _=_;rw[<-cK.out];exact Re
   generalize Ar.gg a.files ((k:Int)+1)=ak at*;go_wp2_with fail
   generalize hwr:wr=wk at*;clear hwr;go_loopw [7,8] (λu i w'=>∃m:Nat,m<=N/\u=.bool (ak m)/\i=.int .i64 m/\w'=wk) (λ_ i _=>N-(intOf i).toNat)
   case atStart=>exact⟨0,by omega,by rw[Iz.out],rfl,rfl⟩
   case round =>
    obtain⟨m,hm2,rfl,rfl,hwr⟩:=hrel;have hwr:=hwr.symm;subst hwr;by_cases hlm:m<N
    ·have d2:decide ((m:Int)<(N:Int))=true:=al (by omega);have eJ:=al hlm;have jQ:(m:Int)<(N:Int):=by omega
     obtain⟨bf,of,rfl,hbf,c1⟩:=cy.out _ B7 m hlm;have qP:=Za (Iy.out m);generalize (Nm a.files m).dict=f1 at*
     cases hu:ak m with
     |true =>
      have HN:Hid (ak (m+1)=true):=by show _=_;rw[qP.out,hu];rfl
      clear hu qP;go_wp2_with fail
      go_roundw
      case rel=>exact⟨m+1,by omega,by rw[HN.out],by go_num,by trivial⟩
      case measure=>simp[intOf];omega
     |false =>
      by_cases du:f1=(k:Int)+1
      ·have HN:Hid (ak (m+1)=true):=by show _=_;rw[qP.out,hu,decide_eq_true du];rfl
       subst du;clear hu qP;go_wp2_with fail
       go_roundw
       case rel=>exact⟨m+1,by omega,by rw[HN.out],by go_num,by trivial⟩
       case measure=>simp[intOf];omega
      ·have HN:Hid (ak (m+1)=false):=by show _=_;rw[qP.out,hu,decide_eq_false du];rfl
       have e1:(f1==((k:Int)+1))=false:=by simpa using du
       clear hu qP;go_wp2_with fail
       go_roundw
       case rel=>exact⟨m+1,by omega,by rw[HN.out],by go_num,by trivial⟩
       case measure=>simp[intOf];omega
    ·obtain rfl:m=N:=by omega
     have d2:decide ((m:Int)<(m:Int))=false:=by simp
     have hak:=IA.out;rw[hak];clear hak Iy Iz IA
     cases hu:XK a ((k+1:Nat):Int) with
     |false =>
      obtain⟨e1,e2⟩:=FP hu;have kW:=Za e1;have HE2:=Za e2;clear e1 e2 hu;go_wp2_with fail
      go_roundw
      case rel=>exact⟨k+1,v1,by omega,by go_num,by rw[kW.out,HE2.out];exact S1⟩
      case measure=>simp[intOf];omega
     |true =>
      have kW:Hid (VZ a (k+1)=VZ a k++[X]):=by show _=_;rw[FQ hu,mB.out]
      clear hu
      obtain⟨L,hL⟩:∃L,(VZ a k).length=L:=⟨_,rfl⟩
      have hL4:L<=4:=by
       have e1:=YM a k;have e2:=aaE a k;omega
      have tc:Hid ((VZ a (k+1)).length=L+1):=by show _=_;rw[kW.out,List.length_append,hL];rfl
      have mg:Hid ((VZ a (k+1)).map Value.string=(VZ a k).map Value.string++[.string X]):=by show _=_;rw[kW.out,List.map_append];rfl
      have HY:Hid (∀q,q<m->(Nm a.files q).dict=(k:Int)+1->aw (dh a k (q+1))=aw ((dh a k q).take q++{ Nm (dh a k q) q with dict:=(L:Int)+1 } :: (dh a k q).drop (q+1))):=λq h1 h2=>by
       have e:((Ar.gn a (k+1):Nat):Int)=(L:Int)+1:=by rw[<-YM,tc.out];rfl
       rw[aaF (by rw[cK.out];exact h1) h2,e]
      have Aa:Hid (∀q,q<m->(Nm a.files q).dict≠(k:Int)+1->aw (dh a k (q+1))=aw (dh a k q)):=λq h1 h2=>by rw[FN (by rw[cK.out];exact h1) h2]
      have Ab:Hid (∀q,q<m->(dh a k q).length=m):=λq h1=>by rw[aaG (by rw[cK.out];omega),cK.out]
      have Bw:=Za (s8.out k);rw[hL,HI0.out]at S1;clear hL kW mB;have Bs:=S1.c0;have Up:=S1.f0;have hbC:=S1.hb;have ic:=S1.hC;have hLi:(L:Int)<=4:=by omega
      generalize (VZ a k).map Value.string=XS at*;obtain⟨p1,q1,rfl,_⟩:=Zq S1.o1;have S9:=S1.below ((bR _ _).drew);go_wp2_with fail
      go_region_law (first
       |(refine gF _ rfl _ _ 32 rfl w3.heap.size 9 i0 (.string ⟨#[]⟩) 1 16 je hi hz0 hz1 hz2 rfl (by decide) _ _ _ rfl (S9.o1.alloc _) ⟨wk.drew.heap.size,0,none⟩ 1 1 [.string X] rfl rfl (cell_one_new _ _ _) (by simp[Value.oneCell']) (by decide) (by unfold maxLen;omega) (by omega) (by simp;omega) _ rfl ?_;intro g cp t5 hown5 aB bc fI;obtain⟨⟨⟨mC,qq2⟩,S5⟩,_⟩:=S9.gL aB hown5 bc;clear aB hown5 bc fI))
      all_goals
       clear S1 S9 Bs Up hbC ic mC qq2 a0 a1 r0 r1 z0 z1 F7 ed hc hbl B7;generalize t5.setCell _ _=wq at*;have Fq:=F1.keep S5.bel hz;have a1:=Fq.a1;clear Fq;go_wp2_with fail
       clear a1;go_loopw [9] (λi w'=>∃q:Nat,q<=m/\i=.int .i64 q/\cx w3 w' C w3.heap.size (.slice (some ⟨g,0,none⟩) (L+1) cp) (.slice (some ⟨g2,0,none⟩) m cp2) (L+1) m (XS++[.string X]) (aw (dh a k q))) (λi _=>m-(intOf i).toNat)
       case atStart=>exact⟨0,by omega,rfl,S5⟩
       case round =>
        clear S5;obtain⟨q,hq2,rfl,S6⟩:=hrel;have F8:=F1.keep S6.bel hz;obtain⟨B8,a0,a1,r0,r1,z0,z1,RX⟩:=id F8;by_cases hlq:q<m
        ·have d3:decide ((q:Int)<(m:Int))=true:=al (by omega);have nH:=al hlq;have hqi:(q:Int)<(m:Int):=by omega
         obtain⟨bf,of,rfl,hbf,c1⟩:=cy.out _ B8 q hlq;have iW:=Ab.out q hlq;by_cases hd:(Nm a.files q).dict=(k:Int)+1
         ·have HE:=Za (HY.out q hlq hd);rw[<-iW]at S6;obtain⟨S8,t1,t2⟩:=cx.set1 ((L:Int)+1) S6 (i:=q) (by omega);have c0:=S6.c0;have c1':=S6.c1;rw[iW]at c1' S8;have e1:((Nm a.files q).dict==((k:Int)+1))=true:=by simpa using hd
          generalize (Nm a.files q).dict=f1 at*;subst hd;clear S6 iW;go_wp2_with fail
          go_roundw
          case rel=>exact⟨q+1,by omega,by go_num,by rw[HE.out];exact S8⟩
          case measure=>simp[intOf];omega
         ·have HE:=Za (Aa.out q hlq hd);have e1:((Nm a.files q).dict==((k:Int)+1))=false:=by simpa using hd
          generalize (Nm a.files q).dict=f1 at*;clear iW;go_wp2_with fail
          go_roundw
          case rel=>exact⟨q+1,by omega,by go_num,by rw[HE.out];exact S6⟩
          case measure=>simp[intOf];omega
        ·obtain rfl:q=m:=by omega
         have d3:decide ((q:Int)<(q:Int))=false:=by simp
         rw[Bw.out,<-mg.out,<-tc.out]at S6;go_wp2_with fail
         go_roundw
         case rel=>exact⟨k+1,_,by omega,by go_num,S6⟩
         case measure=>simp[intOf];omega
  ·obtain rfl:k=D:=by omega
   have d1:decide ((k:Int)+1<=(k:Int))=false:=dF (by omega);obtain⟨Bz,eS,eU,gd,gw⟩:=lP F7.b S1.o1 S1.o2 hz F7.r0 F7.r1;have hfin:=hQ.out _ _ _ eS eU S1.ne Bz;obtain⟨pp,qq,rfl,_⟩:=Zq S1.o1;have c0:=S1.c0;have c1:=S1.c1;have hC2:=S1.hb;clear S1 eS eU Bz hQ;go_wp2_with fail
   generalize (wr.setCell _ _).setCell _ _=wz at*;exact bodyPost_ret (v:=.tuple #[.agg #[.slice pp (VZ a k).length qq,.slice (some ⟨g2,0,none⟩) N cp2],.int .i64 0]) (by simp[results,results27,go_sem,gd,gw]) rfl hfin
theorem Uq(ad af:Option Addr)(cd cf:Nat)(a:Ar.A)(w:World)(h:bo w ad af a)(hs:ao a) :
 Calls prog 27 #[av ad cd af cf a] w λe w'=>ah w (bh a) (Vz a) e w':=by
 by_cases hc:Vz a=0
 ·rw[zU hc,hc];exact Um ad af cd cf a w h hs hc
 ·have e:bh a=VC:=by unfold bh;rw[ab hc]
  rw[e];exact Ul ad af cd cf a w h hs hc
open Dk (ba w1 w2 w3)
def fq(w:World)(x y:Value)(a b:Ar.A)(t:List UInt8)(e:Ending)(w':World):Prop:=∃v1 v2,e=.returned (.tuple #[.agg #[v1,v2],.string (ba t)])/\((b=a/\v1=x/\v2=y)\/aD w.heap.size w' v1 v2 b)/\ae w w'
theorem oj{w:World}{x y:Value}{a:Ar.A}{t:List UInt8}:Hid (∀w',ae w w'->fq w x y a a t (.returned (.tuple #[.agg #[x,y],.string (ba t)])) w'):=λ_ h9=>⟨_,_,rfl,.inl ⟨rfl,rfl,rfl⟩,h9⟩
theorem IC{w:World}{x y:Value}{a b:Ar.A}{t:List UInt8}:Hid (∀v1 v2 w',aD w.heap.size w' v1 v2 b->ae w w'->fq w x y a b t (.returned (.tuple #[.agg #[v1,v2],.string (ba t)])) w'):=λ_ _ _ h8 h9=>⟨_,_,rfl,.inr h8,h9⟩
theorem four{line:List UInt8}(hm:w3 line=true):((ba line).toList == [108,105,115,116])=false/\((ba line).toList == [115,105,122,101])=false/\((ba line).toList == [115,97,118,101])=false/\((ba line).toList == [99,111,109,112,97,99,116])=false:=by
 have h:=λ(x:List UInt8) (hx:(32:UInt8) ∉ x)=>Wo λe=>by
  have h8:w3 line=false:=((Dk.alone hx).1 e).2;rw[hm]at h8;cases h8
 exact⟨h _ (by decide),h _ (by decide),h _ (by decide),h _ (by decide)⟩
theorem Ur(ad af:Option Addr)(cd cf:Nat)(a:Ar.A)(line:List UInt8)(w:World)(h:bo w ad af a)(hc:Vz a=0)(hv:line=Yz) :
 Calls prog 12 #[av ad cd af cf a,.string (ba line)] w λe w'=>fq w (.slice ad a.aa.length cd) (.slice af a.files.length cf) a (a) (bP a) e w':=by
 have F0:=Fr.start w (.slice ad a.aa.length cd) (.slice af a.files.length cf);have C1:=λw'=>Zi (ba line) w' (by rw[VF,hv];decide)
 rw[VL]at C1;have hb:ba line=⟨#[108,105,115,116]⟩:=by rw[hv];rfl
 rw[hb]at C1 |-
 have CL:=Za λw' (h9:ae w w')=>Uh ad af cd cf a w' (h.below h9) hc
 unfold av at CL |-
 have HQ:=@oj w (.slice ad a.aa.length cd) (.slice af a.files.length cf) a (bP a);generalize fq w (.slice ad a.aa.length cd) (.slice af a.files.length cf) a (a) (bP a)=Q at*;clear h hc hb hv;generalize ba (bP a)=T9 at*;generalize ba (w2 line)=r9 at*;generalize ba (w1 line)=s9 at*;generalize w3 line=m9 at*;generalize a.aa.length=D at*;generalize a.files.length=N at*;go_enter func12,ntmps12
 go_wp2_with fail
 refine mo (C1 _) λu1 G1=>?_
 have F1:=F0.next G1;clear C1 F0 G1;go_wp2_with fail
 have HS:=F1.s2;have P0:=(bR u1.heap.size u1).drew;refine wp_region_held_drew (S:=S2 w (.slice ad D cd) (.slice af N cf)) (by kernel_rfl) (HS.out _ P0) (λhS0=>?_);refine aE 0 4 (.agg #[.slice ad D cd,.slice af N cf]) rfl (λw' ⟨k0,k1⟩=>by go_simp) hS0 ?_;refine aE 1 3 (.agg #[.slice ad D cd,.slice af N cf]) rfl (λw' ⟨k0,k1⟩=>by go_simp) hS0 ?_;refine aR 2 2 rfl λK hK=>?_
 go_simp
 go_at_call 24
 refine mo (CL.out _ (ag F1.b P0)) λq1 Q1=>?_
 have P1:=ag P0 Q1;have hS1:=HS.out _ P1;refine hK.out _ _ hS1 (λ_=>?_);clear hK;have F5:=F1.next P1;obtain⟨⟨r0,r1,z0,z1,_⟩,Bz,⟨y0,y1,_⟩,hSz⟩:=F5.put (.slice ad D cd) (.slice af N cf);refine aR 3 1 rfl λK hK=>?_
 go_simp
 refine hK.out _ _ hSz (λ_=>?_);clear hK;refine aR 4 0 rfl λK hK=>?_
 go_simp
 refine hK.out _ _ hSz (λ_=>?_);clear hK;refine⟨by kernel_rfl,?_⟩;clear r0 r1 z0 z1 hSz HS F5;generalize (q1.setCell _ _).setCell _ _=uz at*;go_wp2_with fail
 exact bodyPost_ret (v:=.tuple #[.agg #[.slice ad D cd,.slice af N cf],.string T9]) (by simp[results,results12,go_sem,y0,y1]) rfl (HQ.out _ Bz)
theorem Us(ad af:Option Addr)(cd cf:Nat)(a:Ar.A)(line:List UInt8)(w:World)(h:bo w ad af a)(hc:Vz a=0)(hv:line=YA) :
 Calls prog 12 #[av ad cd af cf a,.string (ba line)] w λe w'=>fq w (.slice ad a.aa.length cd) (.slice af a.files.length cf) a (a) (VJ (Wg a)) e w':=by
 have F0:=Fr.start w (.slice ad a.aa.length cd) (.slice af a.files.length cf);have C1:=λw'=>Zi (ba line) w' (by rw[VF,hv];decide)
 rw[VL]at C1;have hb:ba line=⟨#[115,105,122,101]⟩:=by rw[hv];rfl
 rw[hb]at C1 |-
 have hzz:Ar.sz a=Wg a:=(ax hc).symm;have CL:=Za λw' (h9:ae w w')=>QT ad af cd cf a w' (h.below h9) (Wy hc) hc
 rw[hzz]at CL;have CD:=λw'=>tF (Wg a) w' (aaT hc)
 unfold av at CL |-
 have HQ:=@oj w (.slice ad a.aa.length cd) (.slice af a.files.length cf) a (VJ (Wg a));generalize fq w (.slice ad a.aa.length cd) (.slice af a.files.length cf) a (a) (VJ (Wg a))=Q at*;clear h hc hb hv hzz;generalize ba (VJ (Wg a))=T9 at*;generalize Wg a=Z9 at*;generalize ba (w2 line)=r9 at*;generalize ba (w1 line)=s9 at*;generalize w3 line=m9 at*;generalize a.aa.length=D at*;generalize a.files.length=N at*;go_enter func12,ntmps12
 go_wp2_with fail
 refine mo (C1 _) λu1 G1=>?_
 have F1:=F0.next G1;clear C1 F0 G1;go_wp2_with fail
 have HS:=F1.s2;have P0:=(bR u1.heap.size u1).drew;refine wp_region_held_drew (S:=S2 w (.slice ad D cd) (.slice af N cf)) (by kernel_rfl) (HS.out _ P0) (λhS0=>?_);refine aE 0 5 (.agg #[.slice ad D cd,.slice af N cf]) rfl (λw' ⟨k0,k1⟩=>by go_simp) hS0 ?_;refine aE 1 4 (.agg #[.slice ad D cd,.slice af N cf]) rfl (λw' ⟨k0,k1⟩=>by go_simp) hS0 ?_;refine aR 2 3 rfl λK hK=>?_
 go_simp
 go_at_call 25
 refine mo (CL.out _ (ag F1.b P0)) λq1 Q1=>?_
 have P1:=ag P0 Q1;have hS1:=HS.out _ P1;refine hK.out _ _ hS1 (λ_=>?_);clear hK;refine aR 3 2 rfl λK hK=>?_
 go_simp
 go_at_call 23
 refine mo (CD _) λq2 Q2=>?_
 have P2:=ag P1 Q2;have hS2:=HS.out _ P2;refine hK.out _ _ hS2 (λ_=>?_);clear hK;have F5:=F1.next P2;obtain⟨⟨r0,r1,z0,z1,_⟩,Bz,⟨y0,y1,_⟩,hSz⟩:=F5.put (.slice ad D cd) (.slice af N cf);refine aR 4 1 rfl λK hK=>?_
 go_simp
 refine hK.out _ _ hSz (λ_=>?_);clear hK;refine aR 5 0 rfl λK hK=>?_
 go_simp
 refine hK.out _ _ hSz (λ_=>?_);clear hK;refine⟨by kernel_rfl,?_⟩;clear r0 r1 z0 z1 hSz HS F5;generalize (q2.setCell _ _).setCell _ _=uz at*;go_wp2_with fail
 exact bodyPost_ret (v:=.tuple #[.agg #[.slice ad D cd,.slice af N cf],.string T9]) (by simp[results,results12,go_sem,y0,y1]) rfl (HQ.out _ Bz)
theorem Ut(ad af:Option Addr)(cd cf:Nat)(a:Ar.A)(line:List UInt8)(w:World)(h:bo w ad af a)(hc:Vz a=0)(hv:line=Yi)(hE:aV a=0) :
 Calls prog 12 #[av ad cd af cf a,.string (ba line)] w λe w'=>fq w (.slice ad a.aa.length cd) (.slice af a.files.length cf) a (a) (VJ (VT a).size) e w':=by
 have F0:=Fr.start w (.slice ad a.aa.length cd) (.slice af a.files.length cf);have C1:=λw'=>Zi (ba line) w' (by rw[VF,hv];decide)
 rw[VL]at C1;have hb:ba line=⟨#[115,97,118,101]⟩:=by rw[hv];rfl
 rw[hb]at C1 |-
 have CL:=Za λw' (h9:ae w w')=>Ix ad af cd cf a w' (h.below h9) (Wy hc)
 have CD:=λw'=>tF (VT a).size w' (by have:=aaS (a:=a);omega)
 rw[hE]at CL;unfold av at CL |-
 have HQ:=@oj w (.slice ad a.aa.length cd) (.slice af a.files.length cf) a (VJ (VT a).size);generalize fq w (.slice ad a.aa.length cd) (.slice af a.files.length cf) a (a) (VJ (VT a).size)=Q at*;clear h hc hb hv hE;generalize ba (VJ (VT a).size)=T9 at*;generalize VT a=Z9 at*;generalize ba (w2 line)=r9 at*;generalize ba (w1 line)=s9 at*;generalize w3 line=m9 at*;generalize a.aa.length=D at*;generalize a.files.length=N at*;go_enter func12,ntmps12
 go_wp2_with fail
 refine mo (C1 _) λu1 G1=>?_
 have F1:=F0.next G1;clear C1 F0 G1;have a0:=F1.a0;have a1:=F1.a1;go_wp2_with fail
 refine mo (CL.out _ F1.b) λu2 G2=>?_
 have F2:=F1.next G2;clear a0 a1 F1 G2 CL;go_wp2_with fail
 have HS:=F2.s2;have P0:=(bR u2.heap.size u2).drew;refine wp_region_held_drew (S:=S2 w (.slice ad D cd) (.slice af N cf)) (by kernel_rfl) (HS.out _ P0) (λhS0=>?_);refine aE 0 5 (.agg #[.slice ad D cd,.slice af N cf]) rfl (λw' ⟨k0,k1⟩=>by go_simp) hS0 ?_;refine aE 1 4 (.string Z9) rfl (λw' ⟨k0,k1⟩=>by go_simp) hS0 ?_;refine aE 2 3 (.int .i64 (Z9.size:Nat)) rfl (λw' ⟨k0,k1⟩=>by go_simp) hS0 ?_;refine aR 3 2 rfl λK hK=>?_
 go_simp
 go_at_call 23
 refine mo (CD _) λq1 Q1=>?_
 have P1:=ag P0 Q1;have hS1:=HS.out _ P1;refine hK.out _ _ hS1 (λ_=>?_);clear hK;have F5:=F2.next P1;obtain⟨⟨r0,r1,z0,z1,_⟩,Bz,⟨y0,y1,_⟩,hSz⟩:=F5.put (.slice ad D cd) (.slice af N cf);refine aR 4 1 rfl λK hK=>?_
 go_simp
 refine hK.out _ _ hSz (λ_=>?_);clear hK;refine aR 5 0 rfl λK hK=>?_
 go_simp
 refine hK.out _ _ hSz (λ_=>?_);clear hK;refine⟨by kernel_rfl,?_⟩;clear r0 r1 z0 z1 hSz HS F5;generalize (q1.setCell _ _).setCell _ _=uz at*;go_wp2_with fail
 exact bodyPost_ret (v:=.tuple #[.agg #[.slice ad D cd,.slice af N cf],.string T9]) (by simp[results,results12,go_sem,y0,y1]) rfl (HQ.out _ Bz)
theorem Uu(ad af:Option Addr)(cd cf:Nat)(a:Ar.A)(line:List UInt8)(w:World)(h:bo w ad af a)(hc:Vz a=0)(hv:line=Yi)(hE:aV a≠0) :
 Calls prog 12 #[av ad cd af cf a,.string (ba line)] w λe w'=>fq w (.slice ad a.aa.length cd) (.slice af a.files.length cf) a (a) (V0 (aV a)) e w':=by
 have F0:=Fr.start w (.slice ad a.aa.length cd) (.slice af a.files.length cf);have C1:=λw'=>Zi (ba line) w' (by rw[VF,hv];decide)
 rw[VL]at C1;have hb:ba line=⟨#[115,97,118,101]⟩:=by rw[hv];rfl
 rw[hb]at C1 |-
 have CL:=Za λw' (h9:ae w w')=>Ix ad af cd cf a w' (h.below h9) (Wy hc)
 have CE:=λw'=>v7 (aV a) w' (aaX hc)
 have d:(aV a==0)=false:=by simpa using hE
 unfold av at CL |-
 have HQ:=@oj w (.slice ad a.aa.length cd) (.slice af a.files.length cf) a (V0 (aV a));generalize fq w (.slice ad a.aa.length cd) (.slice af a.files.length cf) a (a) (V0 (aV a))=Q at*;clear h hc hb hv hE;generalize ba (V0 (aV a))=T9 at*;generalize aV a=E9 at*;generalize VT a=Z9 at*;generalize ba (w2 line)=r9 at*;generalize ba (w1 line)=s9 at*;generalize w3 line=m9 at*;generalize a.aa.length=D at*;generalize a.files.length=N at*;go_enter func12,ntmps12
 go_wp2_with fail
 refine mo (C1 _) λu1 G1=>?_
 have F1:=F0.next G1;clear C1 F0 G1;have a0:=F1.a0;have a1:=F1.a1;go_wp2_with fail
 refine mo (CL.out _ F1.b) λu2 G2=>?_
 have F2:=F1.next G2;clear a0 a1 F1 G2 CL;go_wp2_with fail
 have HS:=F2.s2;have P0:=(bR u2.heap.size u2).drew;refine wp_region_held_drew (S:=S2 w (.slice ad D cd) (.slice af N cf)) (by kernel_rfl) (HS.out _ P0) (λhS0=>?_);refine aE 0 5 (.agg #[.slice ad D cd,.slice af N cf]) rfl (λw' ⟨k0,k1⟩=>by go_simp) hS0 ?_;refine aE 1 4 (.func (.func 22) #[] #[]) rfl (λw' ⟨k0,k1⟩=>by go_simp) hS0 ?_;refine aE 2 3 (.int .i64 E9) rfl (λw' ⟨k0,k1⟩=>by go_simp) hS0 ?_;refine aR 3 2 rfl λK hK=>?_
 go_simp
 go_at_call 22
 refine mo (CE _) λq1 Q1=>?_
 have P1:=ag P0 Q1;have hS1:=HS.out _ P1;refine hK.out _ _ hS1 (λ_=>?_);clear hK;have F5:=F2.next P1;obtain⟨⟨r0,r1,z0,z1,_⟩,Bz,⟨y0,y1,_⟩,hSz⟩:=F5.put (.slice ad D cd) (.slice af N cf);refine aR 4 1 rfl λK hK=>?_
 go_simp
 refine hK.out _ _ hSz (λ_=>?_);clear hK;refine aR 5 0 rfl λK hK=>?_
 go_simp
 refine hK.out _ _ hSz (λ_=>?_);clear hK;refine⟨by kernel_rfl,?_⟩;clear r0 r1 z0 z1 hSz HS F5;generalize (q1.setCell _ _).setCell _ _=uz at*;go_wp2_with fail
 exact bodyPost_ret (v:=.tuple #[.agg #[.slice ad D cd,.slice af N cf],.string T9]) (by simp[results,results12,go_sem,y0,y1]) rfl (HQ.out _ Bz)
theorem Uv(ad af:Option Addr)(cd cf:Nat)(a:Ar.A)(line:List UInt8)(w:World)(h:bo w ad af a)(hc:Vz a=0)(hv:line=au) :
 Calls prog 12 #[av ad cd af cf a,.string (ba line)] w λe w'=>fq w (.slice ad a.aa.length cd) (.slice af a.files.length cf) a (bh a) ([111,107]) e w':=by
 have F0:=Fr.start w (.slice ad a.aa.length cd) (.slice af a.files.length cf);have C1:=λw'=>Zi (ba line) w' (by rw[VF,hv];decide)
 rw[VL]at C1;have hb:ba line=⟨#[99,111,109,112,97,99,116]⟩:=by rw[hv];rfl
 rw[hb]at C1 |-
 have CL:=Za λw' (h9:ae w w')=>Uq ad af cd cf a w' (h.below h9) (Wy hc)
 rw[hc]at CL;unfold av at CL |-
 have HQ:=@IC w (.slice ad a.aa.length cd) (.slice af a.files.length cf) a (bh a) ([111,107]);generalize fq w (.slice ad a.aa.length cd) (.slice af a.files.length cf) a (bh a) ([111,107])=Q at*;clear h hc hb hv;generalize bh a=A9 at*;generalize ba (w2 line)=r9 at*;generalize ba (w1 line)=s9 at*;generalize w3 line=m9 at*;generalize a.aa.length=D at*;generalize a.files.length=N at*;go_enter func12,ntmps12
 go_wp2_with fail
 refine mo (C1 _) λu1 G1=>?_
 have F1:=F0.next G1;clear C1 F0 G1;have a0:=F1.a0;have a1:=F1.a1;have hz1:=F1.hz;go_wp2_with fail
 refine(CL.out _ F1.b).mono ?_;intro e u2 A2;obtain⟨cP,cQ,af3,cf3,rfl,O3,G2⟩:=A2.own;have F2:=F1.next G2;clear a0 a1 F1 G2 CL A2;generalize A9.aa.length=n3 at*;generalize A9.files.length=m3 at*;have G3:=Zb u2 (.cells #[.slice cP n3 cQ,.slice af3 m3 cf3] 35 (0,0));obtain⟨b0,b1,_⟩:=Bx.new u2 (.slice cP n3 cQ) (.slice af3 m3 cf3);have F3:=F2.next G3;obtain⟨⟨r0,r1,z0,z1,_⟩,Bz,⟨y0,y1,_⟩,_⟩:=F3.put (.slice cP n3 cQ) (.slice af3 m3 cf3);have Oz:=((O3.next G3).set2 (b:=w.heap.size+1) (by omega) (.slice cP n3 cQ) (.slice af3 m3 cf3)).low (lo':=w.heap.size) (by omega);clear O3 F3;go_wp2_with fail
 exact bodyPost_ret (v:=.tuple #[.agg #[.slice cP n3 cQ,.slice af3 m3 cf3],.string (ba [111,107])]) (by simp[results,results12,go_sem,y0,y1];rfl) rfl (HQ.out _ _ _ Oz Bz)
theorem By(ad af:Option Addr)(cd cf:Nat)(a:Ar.A)(line:List UInt8)(w:World)(hl:line.length<=100000)(x:List UInt8)(hx:w1 line=x)(hm:w3 line=true)(b0 b1 b2:Bool)(q0:(x == [112,117,116])=b0)(q1:(x == [100,114,111,112])=b1)(q2:(x == [116,114,97,105,110])=b2)(hb:b0=true\/(b0=false/\b1=true)\/(b0=false/\b1=false/\b2=true))(b:Ar.A)(CC:∀w',ae w w'->Calls prog 28 #[av ad cd af cf a,.string (ba x),.string (ba (w2 line))] w' λe wz=>gD w' b 0 e wz) :
 Calls prog 12 #[av ad cd af cf a,.string (ba line)] w λe w'=>fq w (.slice ad a.aa.length cd) (.slice af a.files.length cf) a (b) ([111,107]) e w':=by
 rcases hb with rfl|⟨rfl,rfl⟩|⟨rfl,rfl,rfl⟩
 all_goals
  have F0:=Fr.start w (.slice ad a.aa.length cd) (.slice af a.files.length cf);have C1:=λw'=>Zi (ba line) w' (by rw[VF];omega)
  rw[VL]at C1;rw[hx,hm]at C1;obtain⟨e0,e1,e2,e3⟩:=four hm;have p0:=bJ q0;have p1:=bJ q1;have p2:=bJ q2;have HC:=Za CC;unfold av at HC |-
  have HQ:=@IC w (.slice ad a.aa.length cd) (.slice af a.files.length cf) a (b) ([111,107]);generalize fq w (.slice ad a.aa.length cd) (.slice af a.files.length cf) a (b) ([111,107])=Q at*;clear CC hx hm q0 q1 q2;generalize ba x=x9 at*;generalize ba (w2 line)=r9 at*;generalize ba line=q9 at*;generalize a.aa.length=D at*;generalize a.files.length=N at*;go_enter func12,ntmps12
  go_wp2_with fail
  refine mo (C1 _) λu1 G1=>?_
  have F1:=F0.next G1;clear C1 F0 G1;have a0:=F1.a0;have a1:=F1.a1;have hz1:=F1.hz;go_wp2_with fail
  refine(HC.out _ F1.b).mono ?_;rintro e u2 ⟨cP,n3,cQ,af3,m3,cf3,rfl,hO,G2⟩;have F2:=F1.next G2;clear a0 a1 F1 G2 HC;have O3:=hO rfl;clear hO;have G3:=Zb u2 (.cells #[.slice cP n3 cQ,.slice af3 m3 cf3] 35 (0,0));obtain⟨b0,b1,_⟩:=Bx.new u2 (.slice cP n3 cQ) (.slice af3 m3 cf3);have F3:=F2.next G3;obtain⟨⟨r0,r1,z0,z1,_⟩,Bz,⟨y0,y1,_⟩,_⟩:=F3.put (.slice cP n3 cQ) (.slice af3 m3 cf3);have Oz:=((O3.next G3).set2 (b:=w.heap.size+1) (by omega) (.slice cP n3 cQ) (.slice af3 m3 cf3)).low (lo':=w.heap.size) (by omega);clear O3 F3;go_wp2_with fail
  exact bodyPost_ret (v:=.tuple #[.agg #[.slice cP n3 cQ,.slice af3 m3 cf3],.string (ba [111,107])]) (by simp[results,results12,go_sem,y0,y1];rfl) rfl (HQ.out _ _ _ Oz Bz)
theorem qQ(ad af:Option Addr)(cd cf:Nat)(a:Ar.A)(line:List UInt8)(w:World)(hl:line.length<=100000)(x:List UInt8)(hx:w1 line=x)(hm:w3 line=true)(b0 b1 b2:Bool)(q0:(x == [112,117,116])=b0)(q1:(x == [100,114,111,112])=b1)(q2:(x == [116,114,97,105,110])=b2)(hb:b0=true\/(b0=false/\b1=true)\/(b0=false/\b1=false/\b2=true))(b:Ar.A)(E:Int)(CC:∀w',ae w w'->Calls prog 28 #[av ad cd af cf a,.string (ba x),.string (ba (w2 line))] w' λe wz=>gD w' b E e wz)(hE:E≠0)(hB:XO E) :
 Calls prog 12 #[av ad cd af cf a,.string (ba line)] w λe w'=>fq w (.slice ad a.aa.length cd) (.slice af a.files.length cf) a (a) (V0 E) e w':=by
 rcases hb with rfl|⟨rfl,rfl⟩|⟨rfl,rfl,rfl⟩
 all_goals
  have F0:=Fr.start w (.slice ad a.aa.length cd) (.slice af a.files.length cf);have C1:=λw'=>Zi (ba line) w' (by rw[VF];omega)
  rw[VL]at C1;rw[hx,hm]at C1;obtain⟨e0,e1,e2,e3⟩:=four hm;have p0:=bJ q0;have p1:=bJ q1;have p2:=bJ q2;have CE:=λw'=>v7 E w' hB
  have d:(E==0)=false:=by simpa using hE
  have HC:=Za CC;unfold av at HC |-
  have HQ:=@oj w (.slice ad a.aa.length cd) (.slice af a.files.length cf) a (V0 E);generalize fq w (.slice ad a.aa.length cd) (.slice af a.files.length cf) a (a) (V0 E)=Q at*;clear CC hx hm hB hE q0 q1 q2;generalize ba x=x9 at*;generalize ba (V0 E)=T9 at*;generalize ba (w2 line)=r9 at*;generalize ba line=q9 at*;generalize a.aa.length=D at*;generalize a.files.length=N at*;go_enter func12,ntmps12
  go_wp2_with fail
  refine mo (C1 _) λu1 G1=>?_
  have F1:=F0.next G1;clear C1 F0 G1;have a0:=F1.a0;have a1:=F1.a1;have hz1:=F1.hz;go_wp2_with fail
  refine(HC.out _ F1.b).mono ?_;rintro e u2 ⟨cP,n3,cQ,af3,m3,cf3,rfl,hO,G2⟩;have F2:=F1.next G2;clear a0 a1 F1 G2 HC;have F3:=F2.next (Zb u2 (.cells #[.slice cP n3 cQ,.slice af3 m3 cf3] 35 (0,0)));clear hO F2;go_wp2_with fail
  generalize (u2.alloc (.cells #[.slice cP n3 cQ,.slice af3 m3 cf3] 35 (0,0)))=u3 at*;have HS:=F3.s2;have P0:=(bR u3.heap.size u3).drew;refine wp_region_held_drew (S:=S2 w (.slice ad D cd) (.slice af N cf)) (by kernel_rfl) (HS.out _ P0) (λhS0=>?_);refine aE 0 5 (.agg #[.slice ad D cd,.slice af N cf]) rfl (λw' ⟨k0,k1⟩=>by go_simp) hS0 ?_;refine aE 1 4 (.func (.func 22) #[] #[]) rfl (λw' ⟨k0,k1⟩=>by go_simp) hS0 ?_;refine aE 2 3 (.int .i64 E) rfl (λw' ⟨k0,k1⟩=>by go_simp) hS0 ?_;refine aR 3 2 rfl λK hK=>?_
  go_simp
  go_at_call 22
  refine mo (CE _) λq1 Q1=>?_
  have P1:=ag P0 Q1;have hS1:=HS.out _ P1;refine hK.out _ _ hS1 (λ_=>?_);clear hK;have F5:=F3.next P1;obtain⟨⟨r0,r1,z0,z1,_⟩,Bz,⟨y0,y1,_⟩,hSz⟩:=F5.put (.slice ad D cd) (.slice af N cf);refine aR 4 1 rfl λK hK=>?_
  go_simp
  refine hK.out _ _ hSz (λ_=>?_);clear hK;refine aR 5 0 rfl λK hK=>?_
  go_simp
  refine hK.out _ _ hSz (λ_=>?_);clear hK;refine⟨by kernel_rfl,?_⟩;clear r0 r1 z0 z1 hSz HS F5;generalize (q1.setCell _ _).setCell _ _=uz at*;go_wp2_with fail
  exact bodyPost_ret (v:=.tuple #[.agg #[.slice ad D cd,.slice af N cf],.string T9]) (by simp[results,results12,go_sem,y0,y1]) rfl (HQ.out _ Bz)
theorem ID(ad af:Option Addr)(cd cf:Nat)(a:Ar.A)(line:List UInt8)(w:World)(hl:line.length<=100000)(x:List UInt8)(hx:w1 line=x)(hm:w3 line=true)(b3 b4:Bool)(q0:(x == [112,117,116])=false)(q1:(x == [100,114,111,112])=false)(q2:(x == [116,114,97,105,110])=false)(q3:(x == [103,101,116])=b3)(q4:(x == [114,97,110,103,101])=b4)(hb:b3=true\/(b3=false/\b4=true))(T:ByteArray)(CC:∀w',ae w w'->CB 29 #[av ad cd af cf a,.string (ba x),.string (ba (w2 line))] w' (.tuple #[.string T,.int .i64 0])) :
 Calls prog 12 #[av ad cd af cf a,.string (ba line)] w λe w'=>fq w (.slice ad a.aa.length cd) (.slice af a.files.length cf) a (a) (T.data.toList) e w':=by
 rcases hb with rfl|⟨rfl,rfl⟩
 all_goals
  have F0:=Fr.start w (.slice ad a.aa.length cd) (.slice af a.files.length cf);have C1:=λw'=>Zi (ba line) w' (by rw[VF];omega)
  rw[VL]at C1;rw[hx,hm]at C1;obtain⟨e0,e1,e2,e3⟩:=four hm;have p0:=bJ q0;have p1:=bJ q1;have p2:=bJ q2;have p3:=bJ q3;have p4:=bJ q4;have HC:=Za CC;unfold av at HC |-
  have HQ:=@oj w (.slice ad a.aa.length cd) (.slice af a.files.length cf) a (T.data.toList);generalize fq w (.slice ad a.aa.length cd) (.slice af a.files.length cf) a (a) (T.data.toList)=Q at*;clear CC hx hm q0 q1 q2 q3 q4;generalize ba x=x9 at*;rw[fE]at HQ;generalize ba (w2 line)=r9 at*;generalize ba line=q9 at*;generalize a.aa.length=D at*;generalize a.files.length=N at*;go_enter func12,ntmps12
  go_wp2_with fail
  refine mo (C1 _) λu1 G1=>?_
  have F1:=F0.next G1;clear C1 F0 G1;have a0:=F1.a0;have a1:=F1.a1;go_wp2_with fail
  refine mo (HC.out _ F1.b) λu2 G2=>?_
  have F2:=F1.next G2;clear a0 a1 F1 G2 HC;have a0:=F2.a0;have a1:=F2.a1;obtain⟨⟨r0,r1,z0,z1,_⟩,Bz,⟨y0,y1,_⟩,_⟩:=F2.put (.slice ad D cd) (.slice af N cf);clear F2;go_wp2_with fail
  exact bodyPost_ret (v:=.tuple #[.agg #[.slice ad D cd,.slice af N cf],.string T]) (by simp[results,results12,go_sem,y0,y1]) rfl (HQ.out _ Bz)
theorem wA(ad af:Option Addr)(cd cf:Nat)(a:Ar.A)(line:List UInt8)(w:World)(hl:line.length<=100000)(x:List UInt8)(hx:w1 line=x)(hm:w3 line=true)(b3 b4:Bool)(q0:(x == [112,117,116])=false)(q1:(x == [100,114,111,112])=false)(q2:(x == [116,114,97,105,110])=false)(q3:(x == [103,101,116])=b3)(q4:(x == [114,97,110,103,101])=b4)(hb:b3=true\/(b3=false/\b4=true))(T:ByteArray)(E:Int)(CC:∀w',ae w w'->CB 29 #[av ad cd af cf a,.string (ba x),.string (ba (w2 line))] w' (.tuple #[.string T,.int .i64 E]))(hE:E≠0)(hB:XO E) :
 Calls prog 12 #[av ad cd af cf a,.string (ba line)] w λe w'=>fq w (.slice ad a.aa.length cd) (.slice af a.files.length cf) a (a) (V0 E) e w':=by
 rcases hb with rfl|⟨rfl,rfl⟩
 all_goals
  have F0:=Fr.start w (.slice ad a.aa.length cd) (.slice af a.files.length cf);have C1:=λw'=>Zi (ba line) w' (by rw[VF];omega)
  rw[VL]at C1;rw[hx,hm]at C1;obtain⟨e0,e1,e2,e3⟩:=four hm;have p0:=bJ q0;have p1:=bJ q1;have p2:=bJ q2;have p3:=bJ q3;have p4:=bJ q4;have CE:=λw'=>v7 E w' hB
  have d:(E==0)=false:=by simpa using hE
  have HC:=Za CC;unfold av at HC |-
  have HQ:=@oj w (.slice ad a.aa.length cd) (.slice af a.files.length cf) a (V0 E);generalize fq w (.slice ad a.aa.length cd) (.slice af a.files.length cf) a (a) (V0 E)=Q at*;clear CC hx hm hB hE q0 q1 q2 q3 q4;generalize ba x=x9 at*;generalize ba (V0 E)=T9 at*;generalize ba (w2 line)=r9 at*;generalize ba line=q9 at*;generalize a.aa.length=D at*;generalize a.files.length=N at*;go_enter func12,ntmps12
  go_wp2_with fail
  refine mo (C1 _) λu1 G1=>?_
  have F1:=F0.next G1;clear C1 F0 G1;have a0:=F1.a0;have a1:=F1.a1;go_wp2_with fail
  refine mo (HC.out _ F1.b) λu2 G2=>?_
  have F2:=F1.next G2;clear a0 a1 F1 G2 HC;go_wp2_with fail
  have HS:=F2.s2;have P0:=(bR u2.heap.size u2).drew;refine wp_region_held_drew (S:=S2 w (.slice ad D cd) (.slice af N cf)) (by kernel_rfl) (HS.out _ P0) (λhS0=>?_);refine aE 0 5 (.agg #[.slice ad D cd,.slice af N cf]) rfl (λw' ⟨k0,k1⟩=>by go_simp) hS0 ?_;refine aE 1 4 (.func (.func 22) #[] #[]) rfl (λw' ⟨k0,k1⟩=>by go_simp) hS0 ?_;refine aE 2 3 (.int .i64 E) rfl (λw' ⟨k0,k1⟩=>by go_simp) hS0 ?_;refine aR 3 2 rfl λK hK=>?_
  go_simp
  go_at_call 22
  refine mo (CE _) λq1 Q1=>?_
  have P1:=ag P0 Q1;have hS1:=HS.out _ P1;refine hK.out _ _ hS1 (λ_=>?_);clear hK;have F5:=F2.next P1;obtain⟨⟨r0,r1,z0,z1,_⟩,Bz,⟨y0,y1,_⟩,hSz⟩:=F5.put (.slice ad D cd) (.slice af N cf);refine aR 4 1 rfl λK hK=>?_
  go_simp
  refine hK.out _ _ hSz (λ_=>?_);clear hK;refine aR 5 0 rfl λK hK=>?_
  go_simp
  refine hK.out _ _ hSz (λ_=>?_);clear hK;refine⟨by kernel_rfl,?_⟩;clear r0 r1 z0 z1 hSz HS F5;generalize (q1.setCell _ _).setCell _ _=uz at*;go_wp2_with fail
  exact bodyPost_ret (v:=.tuple #[.agg #[.slice ad D cd,.slice af N cf],.string T9]) (by simp[results,results12,go_sem,y0,y1]) rfl (HQ.out _ Bz)
theorem IE(ad af:Option Addr)(cd cf:Nat)(a:Ar.A)(line:List UInt8)(w:World)(hl:line.length<=100000)(m:Bool)(hm:w3 line=m)(e0:((ba line).toList == [108,105,115,116])=false)(e1:((ba line).toList == [115,105,122,101])=false)(e2:((ba line).toList == [115,97,118,101])=false)(e3:((ba line).toList == [99,111,109,112,97,99,116])=false)(hp:m=false\/(m=true/\((ba (w1 line)).toList == [112,117,116])=false/\((ba (w1 line)).toList == [100,114,111,112])=false/\((ba (w1 line)).toList == [116,114,97,105,110])=false/\((ba (w1 line)).toList == [103,101,116])=false/\((ba (w1 line)).toList == [114,97,110,103,101])=false)) :
 Calls prog 12 #[av ad cd af cf a,.string (ba line)] w λe w'=>fq w (.slice ad a.aa.length cd) (.slice af a.files.length cf) a (a) (V0 1) e w':=by
 rcases hp with rfl|⟨rfl,p0,p1,p2,p3,p4⟩
 all_goals
  have F0:=Fr.start w (.slice ad a.aa.length cd) (.slice af a.files.length cf);have C1:=λw'=>Zi (ba line) w' (by rw[VF];omega)
  rw[VL]at C1;rw[hm]at C1;have CE:=λw'=>v7 1 w' XX
  unfold av;have HQ:=@oj w (.slice ad a.aa.length cd) (.slice af a.files.length cf) a (V0 1);generalize fq w (.slice ad a.aa.length cd) (.slice af a.files.length cf) a (a) (V0 1)=Q at*;clear hm;generalize ba (V0 1)=T9 at*;generalize ba (w2 line)=r9 at*;generalize ba (w1 line)=s9 at*;generalize ba line=q9 at*;generalize a.aa.length=D at*;generalize a.files.length=N at*;go_enter func12,ntmps12
  go_wp2_with fail
  refine mo (C1 _) λu1 G1=>?_
  have F1:=F0.next G1;clear C1 F0 G1;go_wp2_with fail
  have HS:=F1.s2;have P0:=(bR u1.heap.size u1).drew;refine wp_region_held_drew (S:=S2 w (.slice ad D cd) (.slice af N cf)) (by kernel_rfl) (HS.out _ P0) (λhS0=>?_);refine aE 0 4 (.agg #[.slice ad D cd,.slice af N cf]) rfl (λw' ⟨k0,k1⟩=>by go_simp) hS0 ?_;refine aE 1 3 (.func (.func 22) #[] #[]) rfl (λw' ⟨k0,k1⟩=>by go_simp) hS0 ?_;refine aR 2 2 rfl λK hK=>?_
  go_simp
  go_at_call 22
  refine mo (CE _) λq1 Q1=>?_
  have P1:=ag P0 Q1;have hS1:=HS.out _ P1;refine hK.out _ _ hS1 (λ_=>?_);clear hK;have F5:=F1.next P1;obtain⟨⟨r0,r1,z0,z1,_⟩,Bz,⟨y0,y1,_⟩,hSz⟩:=F5.put (.slice ad D cd) (.slice af N cf);refine aR 3 1 rfl λK hK=>?_
  go_simp
  refine hK.out _ _ hSz (λ_=>?_);clear hK;refine aR 4 0 rfl λK hK=>?_
  go_simp
  refine hK.out _ _ hSz (λ_=>?_);clear hK;refine⟨by kernel_rfl,?_⟩;clear r0 r1 z0 z1 hSz HS F5;generalize (q1.setCell _ _).setCell _ _=uz at*;go_wp2_with fail
  exact bodyPost_ret (v:=.tuple #[.agg #[.slice ad D cd,.slice af N cf],.string T9]) (by simp[results,results12,go_sem,y0,y1]) rfl (HQ.out _ Bz)
open Dk (ba w1 w2 w3)
namespace Dk
theorem pz(a:Ar.A)(line:List UInt8):fO a line =
 (if line=Yz then(a,bP a) else if line=YA then(a,VJ (Wg a)) else if line=Yi then Yk a (VJ (VT a).size) (aV a) else if line=au then fM a (bh a) (Vz a)
 else if w3 line=true/\w1 line=bK then(if w3 (w2 line)=true/\w3 (w2 (w2 line))=true/\Ws (w1 (w2 (w2 line))) then fM a (bW a (ba (w1 (w2 line))) (ba (w2 (w2 (w2 line)))) (val (w1 (w2 (w2 line))))) (aO a (ba (w1 (w2 line))) (ba (w2 (w2 (w2 line)))) (val (w1 (w2 (w2 line))))) else(a,V0 1))
 else if w3 line=true/\w1 line=aT then(if w3 (w2 line)=true then(a,V0 1) else fM a (Wf a (ba (w1 (w2 line)))) (VE a (ba (w1 (w2 line)))))
 else if w3 line=true/\w1 line=aI then(if Ws (w2 line) then fM a (WL a (val (w2 line))) (V6 a (val (w2 line))) else(a,V0 1))
 else if w3 line=true/\w1 line=YN then(if w3 (w2 line)=true then(a,V0 1) else Yk a (bD a (ba (w1 (w2 line)))).data.toList (VE a (ba (w1 (w2 line)))))
 else if w3 line=true/\w1 line=aK then(if w3 (w2 line)=true/\w3 (w2 (w2 line))=true/\Ws (w1 (w2 (w2 line)))/\Ws (w2 (w2 (w2 line))) then Yk a (W7 a (ba (w1 (w2 line))) (val (w1 (w2 (w2 line)))) (val (w2 (w2 (w2 line))))).data.toList (WO a (ba (w1 (w2 line))) (val (w1 (w2 (w2 line)))) (val (w2 (w2 (w2 line))))) else(a,V0 1))
 else(a,V0 1)):=rfl
end Dk
theorem Uw(ad af:Option Addr)(cd cf:Nat)(a:Ar.A)(line:List UInt8)(w:World)(h:bo w ad af a)(hc:Vz a=0)(hl:line.length<=100000) :
 Calls prog 12 #[av ad cd af cf a,.string (ba line)] w λe w'=>fq w (.slice ad a.aa.length cd) (.slice af a.files.length cf) a (fO a line).1 (fO a line).2 e w':=by
 have L1:=aA line;rw[pz];by_cases l0:line=Yz
 ·rw[ax l0];exact Ur ad af cd cf a line w h hc l0
 rw[ab l0];by_cases l1:line=YA
 ·rw[ax l1];exact Us ad af cd cf a line w h hc l1
 rw[ab l1];by_cases l2:line=Yi
 ·rw[ax l2];unfold Yk;by_cases hE:aV a=0
  ·rw[ax hE];exact Ut ad af cd cf a line w h hc l2 hE
  ·rw[ab hE];exact Uu ad af cd cf a line w h hc l2 hE
 rw[ab l2];by_cases l3:line=au
 ·rw[ax l3];unfold fM;rw[ax hc];exact Uv ad af cd cf a line w h hc l3
 rw[ab l3]
 cases hm:w3 line with
 |false =>
  rw[ab (by simp),ab (by simp),ab (by simp),ab (by simp),ab (by simp)];exact IE ad af cd cf a line w hl false hm (Wo l0) (Wo l1) (Wo l2) (Wo l3) (.inl rfl)
 |true =>
  by_cases k0:w1 line=bK
  ·rw[ax ⟨rfl,k0⟩];have one:=λ(C:(∀w',Calls prog 28 #[av ad cd af cf a,.string ⟨#[112,117,116]⟩,.string (ba (w2 line))] w' λe wz=>gD w' VC 1 e wz))=>qQ ad af cd cf a line w hl _ k0 hm true false false rfl rfl rfl (.inl rfl) VC 1 (λw' _=>C w') (by decide) XX
   cases m1:w3 (w2 line) with
   |false=>rw[ab (by simp)];exact one (λw'=>TU ad af cd cf a (w2 line) w' (by omega) m1)
   |true =>
    cases m2:w3 (w2 (w2 line)) with
    |false=>rw[ab (by simp)];exact one (λw'=>TV ad af cd cf a (w2 line) w' (by omega) m1 m2)
    |true =>
     by_cases hn:Ws (w1 (w2 (w2 line)))
     ·rw[ax ⟨rfl,rfl,hn⟩];have C:=λw' (h9:ae w w')=>TQ ad af cd cf a (w2 line) w' (h.below h9) hc (by omega) m1 m2 hn
      unfold fM;by_cases hE:aO a (ba (w1 (w2 line))) (ba (w2 (w2 (w2 line)))) (Dk.val (w1 (w2 (w2 line))))=0
      ·rw[ax hE];rw[hE]at C;exact By ad af cd cf a line w hl _ k0 hm true false false rfl rfl rfl (.inl rfl) _ C
      ·rw[ab hE];exact qQ ad af cd cf a line w hl _ k0 hm true false false rfl rfl rfl (.inl rfl) _ _ C hE (aaU hc _ _ _)
     ·rw[ab (λh9=>hn h9.2.2)];exact one (λw'=>TW ad af cd cf a (w2 line) w' (by omega) m1 m2 hn)
  rw[ab (λh9=>k0 h9.2)];by_cases k1:w1 line=aT
  ·rw[ax ⟨rfl,k1⟩]
   cases m1:w3 (w2 line) with
   |true=>rw[ax rfl];exact qQ ad af cd cf a line w hl _ k1 hm false true false rfl rfl rfl (.inr (.inl ⟨rfl,rfl⟩)) VC 1 (λw' _=>TY ad af cd cf a (w2 line) w' (by omega) m1) (by decide) XX
   |false =>
    rw[ab (by decide)];have C:=λw' (h9:ae w w')=>TS ad af cd cf a (w2 line) w' (h.below h9) hc (by omega) m1
    unfold fM;by_cases hE:VE a (ba (w1 (w2 line)))=0
    ·rw[ax hE];rw[hE]at C;exact By ad af cd cf a line w hl _ k1 hm false true false rfl rfl rfl (.inr (.inl ⟨rfl,rfl⟩)) _ C
    ·rw[ab hE];exact qQ ad af cd cf a line w hl _ k1 hm false true false rfl rfl rfl (.inr (.inl ⟨rfl,rfl⟩)) _ _ C hE (dW hc _)
  rw[ab (λh9=>k1 h9.2)];by_cases k2:w1 line=aI
  ·rw[ax ⟨rfl,k2⟩];by_cases hn:Ws (w2 line)
   ·rw[ax hn];have C:=λw' (h9:ae w w')=>TR ad af cd cf a (w2 line) w' (h.below h9) hc (by omega) hn
    unfold fM;by_cases hE:V6 a (Dk.val (w2 line))=0
    ·rw[ax hE];rw[hE]at C;exact By ad af cd cf a line w hl _ k2 hm false false true rfl rfl rfl (.inr (.inr ⟨rfl,rfl,rfl⟩)) _ C
    ·rw[ab hE];exact qQ ad af cd cf a line w hl _ k2 hm false false true rfl rfl rfl (.inr (.inr ⟨rfl,rfl,rfl⟩)) _ _ C hE (aaV hc _)
   ·rw[ab hn];exact qQ ad af cd cf a line w hl _ k2 hm false false true rfl rfl rfl (.inr (.inr ⟨rfl,rfl,rfl⟩)) VC 1 (λw' _=>TZ ad af cd cf a (w2 line) w' (by omega) hn) (by decide) XX
  rw[ab (λh9=>k2 h9.2)];by_cases k3:w1 line=YN
  ·rw[ax ⟨rfl,k3⟩]
   cases m1:w3 (w2 line) with
   |true=>rw[ax rfl];exact wA ad af cd cf a line w hl _ k3 hm true false rfl rfl rfl rfl rfl (.inl rfl) _ 1 (λw' _=>Ub ad af cd cf a (w2 line) w' (by omega) m1) (by decide) XX
   |false =>
    rw[ab (by decide)];have C:=λw' (h9:ae w w')=>Ua ad af cd cf a (w2 line) w' (h.below h9) hc (by omega) m1
    unfold Yk;by_cases hE:VE a (ba (w1 (w2 line)))=0
    ·rw[ax hE];rw[hE]at C;exact ID ad af cd cf a line w hl _ k3 hm true false rfl rfl rfl rfl rfl (.inl rfl) _ C
    ·rw[ab hE];exact wA ad af cd cf a line w hl _ k3 hm true false rfl rfl rfl rfl rfl (.inl rfl) _ _ C hE (dW hc _)
  rw[ab (λh9=>k3 h9.2)];by_cases k4:w1 line=aK
  ·rw[ax ⟨rfl,k4⟩];have one:=λ(C:(∀w',CB 29 #[av ad cd af cf a,.string ⟨#[114,97,110,103,101]⟩,.string (ba (w2 line))] w' (.tuple #[.string ⟨#[]⟩,.int .i64 1])))=>wA ad af cd cf a line w hl _ k4 hm false true rfl rfl rfl rfl rfl (.inr ⟨rfl,rfl⟩) _ 1 (λw' _=>C w') (by decide) XX
   cases m1:w3 (w2 line) with
   |false=>rw[ab (by simp)];exact one (λw'=>Uc ad af cd cf a (w2 line) w' (by omega) m1)
   |true =>
    cases m2:w3 (w2 (w2 line)) with
    |false=>rw[ab (by simp)];exact one (λw'=>Ud ad af cd cf a (w2 line) w' (by omega) m1 m2)
    |true =>
     by_cases n1:Ws (w1 (w2 (w2 line)))
     ·by_cases n2:Ws (w2 (w2 (w2 line)))
      ·rw[ax ⟨rfl,rfl,n1,n2⟩];have C:=λw' (h9:ae w w')=>Ug ad af cd cf a (w2 line) w' (h.below h9) hc (by omega) m1 m2 n1 n2
       unfold Yk;by_cases hE:WO a (ba (w1 (w2 line))) (Dk.val (w1 (w2 (w2 line)))) (Dk.val (w2 (w2 (w2 line))))=0
       ·rw[ax hE];rw[hE]at C;exact ID ad af cd cf a line w hl _ k4 hm false true rfl rfl rfl rfl rfl (.inr ⟨rfl,rfl⟩) _ C
       ·rw[ab hE];exact wA ad af cd cf a line w hl _ k4 hm false true rfl rfl rfl rfl rfl (.inr ⟨rfl,rfl⟩) _ _ C hE (aaW hc _ _ _)
      ·rw[ab (λh9=>n2 h9.2.2.2)];exact one (λw'=>Uf ad af cd cf a (w2 line) w' (by omega) m1 m2 n1 n2)
     ·rw[ab (λh9=>n1 h9.2.2.1)];exact one (λw'=>Ue ad af cd cf a (w2 line) w' (by omega) m1 m2 n1)
  rw[ab (λh9=>k4 h9.2)];exact IE ad af cd cf a line w hl true hm (Wo l0) (Wo l1) (Wo l2) (Wo l3) (.inr ⟨rfl,Wo k0,Wo k1,Wo k2,Wo k3,Wo k4⟩)
open Dk (ba w1 w2 w3)
namespace Dk
def Wt(s:ByteArray)(k:Nat):Nat:=(s.data.toList.take k).count 10
theorem ng(h:k<s.size):Wt s (k+1)=Wt s k+(if Cd.at8 s k=10 then 1 else 0):=by
 rw[Zf]at h;unfold Wt;rw[List.take_succ_eq_append_getElem h,List.count_append,aX h]
 congr 1
 by_cases hx:s.data.toList[k]=10
 ·rw[hx];rfl
 ·rw[ab (λe=>hx (UInt8.toNat_inj.1 (by simpa using e)))];exact List.count_eq_zero.2 (by simpa using λe=>hx e.symm)
theorem pA(s:ByteArray):Wt s s.size=s.data.toList.count 10:=by unfold Wt;rw[List.take_of_length_le (by rw[Zf];exact Nat.le_refl _)]
theorem tY(s:ByteArray)(k:Nat):Wt s k<=s.data.toList.count 10:=(List.take_sublist k s.data.toList).count_le 10
def W0(s:ByteArray)(f k:Nat):List UInt8:=(s.data.toList.drop f).take (k-f)
theorem pB(s:ByteArray)(f k:Nat):ba (W0 s f k)=s.extract f k:=by
 apply ZN;rw[VL];unfold W0;simp[ByteArray.data_extract,Array.toList_extract,List.extract]
theorem iA(s:ByteArray)(k:Nat):W0 s k k=[]:=by unfold W0;simp
theorem seg_next(h:f<=k)(h2:k<s.data.toList.length):W0 s f (k+1)=W0 s f k++[s.data.toList[k]]:=by
 unfold W0;rw[show k+1-f=(k-f)+1 by omega,List.take_succ_eq_append_getElem (by rw[List.length_drop];omega),List.getElem_drop]
 congr 3
 omega
theorem nh(s:ByteArray)(f k:Nat):(W0 s f k).length<=s.size:=by unfold W0;rw[List.length_take,List.length_drop,Zf];omega
def rest(s:ByteArray)(a:Ar.A)(f k:Nat):List UInt8:=mM a (YU (W0 s f k) (s.data.toList.drop k))
theorem ka(h2:k<s.size)(hx:Cd.at8 s k=10):rest s a f k=(fO a (W0 s f k)).2++[10]++rest s (fO a (W0 s f k)).1 (k+1) (k+1):=by
 rw[Zf]at h2;rw[aX h2]at hx;have hx2:s.data.toList[k]=10:=UInt8.toNat_inj.1 (by simpa using hx);unfold rest;rw[List.drop_eq_getElem_cons h2,hx2,iA];rfl
theorem kb(h:f<=k)(h2:k<s.size)(hx:Cd.at8 s k≠10):rest s a f k=rest s a f (k+1):=by
 rw[Zf]at h2;rw[aX h2]at hx;have hx2:s.data.toList[k]≠10:=λe=>hx (by rw[e];rfl)
 unfold rest;rw[List.drop_eq_getElem_cons h2,seg_next h h2,YU,ab hx2]
theorem aa5 :rest s a f s.size=[]:=by
 unfold rest;rw[List.drop_of_length_le (by rw[Zf];exact nl _)];rfl
theorem lD(s:ByteArray):rest s VC 0 0=YT VC (YU [] s.data.toList):=by
 rw[iu _ (by decide +kernel)];unfold rest;rw[iA];rfl
theorem nr(h:Vz a=0)(line:List UInt8):Vz (fO a line).1=0:=by rw[<-fP h];exact fQ h line
theorem ns(h:Vz a=0)(line:List UInt8):(fO a line).2.length<=600:=by rw[<-fP h];exact fU h line
theorem jA(h:0<s.size):(s.data.toList ≠ []/\s.data.toList.getLast? ≠ some 10)↔Cd.at8 s (s.size-1)≠10:=by
 rw[Zf]at h |-
 have hne:s.data.toList ≠ []:=λe=>by rw[e]at h;exact absurd h (by decide)
 rw[aX (by omega),List.getLast?_eq_getElem?,List.getElem?_eq_getElem (by omega)];constructor
 ·rintro⟨_,h2⟩ e;exact h2 (congrArg some (UInt8.toNat_inj.1 (by simpa using e)))
 ·intro h2;exact⟨hne,λe=>h2 (by rw[Option.some.inj e];rfl)⟩
end Dk
theorem Ux(s:ByteArray)(w:World)(hs:s.size<=281474976710656) :
 CB 5 #[.string s] w (.tuple #[.string (ba (XP s.data.toList)),.int .i64 (XQ s.data.toList)]):=by
 have HS:Hid (∀k,k<s.size->Wt s (k+1)=Wt s k+(if Cd.at8 s k=10 then 1 else 0)):=λk hk=>ng hk
 have P0:Hid (∀k,¬Wt s k<=100->XQ s.data.toList=2/\XP s.data.toList=[]):=λk h9=>YV (.inr (nT (Nat.lt_of_not_le h9) (tY s k)))
 have hA:=Dk.pA s;have H0:Hid (Wt s 0=0):=rfl;have P1:Hid (16384<s.size->XQ s.data.toList=2/\XP s.data.toList=[]):=λh9=>YV (.inl (by rw[<-Zf];exact h9))
 have P2:Hid (Wt s s.size<=100->¬16384<s.size->0<s.size->Cd.at8 s (s.size-1)≠10->XQ s.data.toList=1/\XP s.data.toList=[]):=λh h9 h8 h7=>gy (by rw[<-Zf];omega) ((jA h8).2 h7)
 have P3:Hid (Wt s s.size<=100->¬16384<s.size->(0<s.size->Cd.at8 s (s.size-1)=10)->XQ s.data.toList=0/\XP s.data.toList=Dk.rest s VC 0 0):=λh h9 h8=>by
  rw[lD];refine aa0 (by rw[<-Zf];omega) (λh7=>?_);have hz:0<s.size:=by rw[Zf];exact List.length_pos_iff.2 h7.1
  exact(jA hz).1 h7 (h8 hz)
 generalize XQ s.data.toList=PE at*;generalize XP s.data.toList=PT at*;clear hA;go_enter func5,ntmps5
 go_wp2_with fail
 go_loopw [4,5] (λc i wr=>∃k:Nat,k<=s.size/\i=.int .i64 k/\c=.int .i64 (Wt s k:Nat)/\Wt s k<=101/\w=wr) (λ_ i _=>s.size-(intOf i).toNat)
 case atStart=>exact⟨0,by omega,rfl,by rw[H0.out];rfl,by rw[H0.out];omega,rfl⟩
 case round =>
  obtain⟨k,hk,rfl,rfl,hc,rfl⟩:=hrel;by_cases h1:Wt s k<=100
  case neg =>
   obtain⟨e1,e2⟩:=P0.out k h1;subst e1 e2;have d2:decide (((Wt s k:Nat):Int)<=100)=false:=by simp;omega
   have d3:decide ((100:Int)<((Wt s k:Nat):Int))=true:=by simp;omega
   generalize Wt s k=c9 at*;clear HS H0 P0 P1 P2 P3
   have hz:(∃b,decide ((k:Int)<(s.size:Int))=b)/\∃b,decide ((16384:Int)<(s.size:Int))=b:=⟨⟨_,rfl⟩,_,rfl⟩
   obtain⟨⟨b1,d1⟩,b2,d4⟩:=hz
   cases b1<;>cases b2<;>(go_wp2_with fail)<;>go_ret2<;>exact⟨rfl,bR _ _⟩
  have d2:decide (((Wt s k:Nat):Int)<=100)=true:=by simp;omega
  by_cases hlt:k<s.size
  ·have d1:decide ((k:Int)<(s.size:Int))=true:=by simp;omega
   have d1':decide (k<s.size)=true:=by simp;omega
   have hki:(k:Int)<(s.size:Int):=by omega
   have HS2:Hid (_=_):=HS.out k hlt;have dG:=kR s k hlt
   obtain⟨y9,hy⟩:∃y,s[k].toNat=y:=⟨_,rfl⟩
   rw[hy]at dG;rw[dG]at HS2;clear dG HS H0 P0 P1 P2 P3;by_cases h10:y9=10
   ·subst h10;rw[ax rfl]at HS2
    have e2:Hid (((Wt s (k+1):Nat):Int)=(Wt s k:Int)+1/\Wt s (k+1)<=101):=⟨by rw[HS2.out];omega,by rw[HS2.out];omega⟩
    generalize Wt s k=c9 at*;go_wp2_with fail
    go_roundw
    case rel=>exact⟨k+1,by omega,by go_num,by rw[e2.out.1],e2.out.2,by trivial⟩
    case measure=>simp[intOf];omega
   ·rw[ab h10]at HS2;have d3:((y9:Int)==10)=false:=by simpa using(show ¬((y9:Int)=10) by omega)
    have d4:(y9==10)=false:=by simpa using h10
    have e2:Hid (Wt s (k+1)=Wt s k):=HS2.out;generalize Wt s k=c9 at*;go_wp2_with fail
    go_roundw
    case rel=>exact⟨k+1,by omega,by go_num,by rw[e2.out],by rw[e2.out];exact hc,by trivial⟩
    case measure=>simp[intOf];omega
  ·obtain rfl:k=s.size:=by omega
   have Q2:=Za (P2.out h1);have Q3:=Za (P3.out h1);clear P2 P3;have d1:decide ((s.size:Int)<(s.size:Int))=false:=by simp
   have d3:decide ((100:Int)<((Wt s s.size:Nat):Int))=false:=by simp;omega
   clear HS H0 P0;generalize Wt s s.size=c9 at*;by_cases hb:16384<s.size
   ·have d4:decide ((16384:Int)<(s.size:Int))=true:=by simp;omega
    obtain⟨e1,e2⟩:=P1.out hb;subst e1 e2;clear P1 Q2 Q3;go_wp2_with fail
    go_ret2
    exact⟨rfl,bR _ _⟩
   ·have d4:decide ((16384:Int)<(s.size:Int))=false:=by simp;omega
    by_cases h0:0<s.size
    ·have g0:decide ((0:Int)<(s.size:Int))=true:=al (by omega);have hk1:s.size-1<s.size:=by omega
     have hki:((s.size:Int)-1)=((s.size-1:Nat):Int):=by omega
     have dG:=kR s (s.size-1) hk1
     obtain⟨y9,hy⟩:∃y,s[s.size-1].toNat=y:=⟨_,rfl⟩
     rw[hy]at dG;have wB:=Q3.out hb;have wC:=Q2.out hb h0;rw[dG]at wB wC;clear dG P1 Q2 Q3;by_cases h10:y9=10
     ·obtain⟨e1,e2⟩:=wB (λ_=>h10);have HR:Hid ([]++Dk.rest s VC 0 0=PT):=e2.symm;subst e1 h10;clear e2 wC wB;have B0:=Zb w (.cells #[.slice none 0 0,.slice none 0 0] 35 (0,0));have X0:=Bx.new w (.slice none 0 0) (.slice none 0 0);have hz0:w.heap.size+1<=(w.alloc (.cells #[.slice none 0 0,.slice none 0 0] 35 (0,0))).heap.size:=by simp
      go_wp2_with fail
      generalize (w.alloc (.cells #[.slice none 0 0,.slice none 0 0] 35 (0,0)))=u0 at*;go_loopw [7,8,9] (λout fr i wr=>∃(k f:Nat) (a:Ar.A) (l:List UInt8) (v1 v2:Value),k<=s.size/\f<=k/\i=.int .i64 k/\fr=.int .i64 f/\out=.string (ba l)/\Bx wr w.heap.size v1 v2/\aD (w.heap.size+1) wr v1 v2 a/\Hid (Vz a=0)/\Hid (l++Dk.rest s a f k=PT)/\l.length+601*(s.size-k)<=9846784/\ae w wr/\w.heap.size+1<=wr.heap.size) (λ_ _ i _=>s.size-(intOf i).toNat)
      case atStart=>exact⟨0,0,VC,[],_,_,by omega,by omega,rfl,rfl,rfl,X0,zN _ _,(by decide +kernel:Vz VC=0),HR.out,by simp only[List.length_nil];omega,B0,hz0⟩
      case round =>
       obtain⟨k,f,a,l,v1,v2,hk,hf,rfl,rfl,rfl,X,O,hca,hR,hl,B,hzw⟩:=hrel;by_cases hlt:k<s.size
       ·have e1:decide ((k:Int)<(s.size:Int))=true:=by simp;omega
        have e1':decide (k<s.size)=true:=by simp;omega
        have hki:(k:Int)<(s.size:Int):=by omega
        have dG:=kR s k hlt
        obtain⟨y9,hy⟩:∃y,s[k].toNat=y:=⟨_,rfl⟩
        rw[hy]at dG;have HY:Hid (Cd.at8 s k=y9):=dG;clear dG;by_cases h10:y9=10
        ·subst h10;have hR2:=hR.out;rw[Dk.ka hlt HY.out]at hR2;have hln:=Dk.nh s f k;obtain⟨ad,cd,af,cf,rfl,rfl,hV⟩:=O.slices;have Dd:=(bR wr.heap.size wr).drew;have CG:=Uw ad af cd cf a (W0 s f k) wr.drew (hV.below Dd) hca.out (by omega);rw[Dk.pB]at CG;have rZ:Hid (_=_):=Dk.nr hca.out (W0 s f k);have wV:=Dk.ns hca.out (W0 s f k)
         have HO:Hid (∀v3 v4 u4,Below wr.drew.heap.size wr.drew u4->((fO a (W0 s f k)).1=a/\v3=.slice ad a.aa.length cd/\v4=.slice af a.files.length cf)\/aD wr.drew.heap.size u4 v3 v4 (fO a (W0 s f k)).1->aD (w.heap.size+1) u4 v3 v4 (fO a (W0 s f k)).1):=by
          rintro v3 v4 u4 h9 (⟨q1,rfl,rfl⟩|h8)
          ·rw[q1];exact(O.next Dd).next h9
          ·exact h8.low (nt hzw Dd.size)
         have Xd:=X.next Dd;have Bd:=ag B Dd;have x0:=Xd.c0;have x1:=Xd.c1;unfold fq at CG;unfold av at CG;have RW:(ba (fO a (W0 s f k)).2).size<=600:=by rw[VF];exact wV
         have Vx:(ba l).size<=9846784:=by rw[VF];omega
         have HB:Hid (ba l++ba (fO a (W0 s f k)).2++⟨#[10]⟩=ba (l++((fO a (W0 s f k)).2++[10]))):=by
          show _=_;rw[YC,show(⟨#[10]⟩:ByteArray)=ba [10]from rfl,YC,List.append_assoc]
         have HR2:Hid ((l++((fO a (W0 s f k)).2++[10]))++Dk.rest s (fO a (W0 s f k)).1 (k+1) (k+1)=PT):=by
          show _=_;rw[<-hR2];simp only[List.append_assoc]
         have hl2:(l++((fO a (W0 s f k)).2++[10])).length+601*(s.size-(k+1))<=9846784:=by
          simp only[List.length_append,List.length_cons,List.length_nil];omega
         clear hR2 hR hca hV X O Dd HY wV hl HR hln;generalize l++((fO a (W0 s f k)).2++[10])=L9 at*;generalize ba (fO a (W0 s f k)).2=T9 at*;generalize (fO a (W0 s f k)).1=A9 at*;generalize a.aa.length=D at*;generalize a.files.length=N at*;have hfk:(f:Int)<=(k:Int):=by omega
         go_wp2_with fail
         refine wp_region_held_drew (S:=λ_=>True) (by kernel_rfl) trivial (λ_=>?_);refine aE 1 10 (.string s) rfl (λw' _=>by go_simp) trivial ?_;refine aE 2 9 (.int .i64 (f:Nat)) rfl (λw' _=>by go_simp) trivial ?_;refine aE 3 8 (.int .i64 (k:Nat)) rfl (λw' _=>by go_simp) trivial ?_;refine aE 4 7 (.string (s.extract f k)) rfl (λw' _=>by go_simp) trivial ?_;refine aR 0 6 rfl λK hK=>?_
         go_simp
         refine hK.out _ _ trivial (λ_=>?_);clear hK;refine aR 5 5 rfl λK hK=>?_
         go_simp
         go_at_call 12
         refine CG.mono ?_;rintro e u4 ⟨v3,v4,rfl,hOr,G4⟩;have X4:=Xd.next G4;have O4:=HO.out _ _ _ G4 hOr;obtain⟨tZ,cH,ua,ub,rfl,rfl,Uy⟩:=O4.slices;generalize A9.aa.length=D4 at*;generalize A9.files.length=N4 at*;refine hK.out _ _ trivial (λ_=>?_);clear hK hOr CG Uy;refine aE 6 4 (.tuple #[.agg #[.slice tZ D4 cH,.slice ua N4 ub],.string T9]) rfl (λw' _=>by go_simp) trivial ?_;refine aE 7 3 (.agg #[.slice tZ D4 cH,.slice ua N4 ub]) rfl (λw' _=>by go_simp) trivial ?_;refine aE 8 2 (.string T9) rfl (λw' _=>by go_simp) trivial ?_;have x0:=X4.c0;have x1:=X4.c1;have f0:=X4.f0;have f1:=X4.f1;have X5:=X4.set (u:=.slice tZ D4 cH) (v:=.slice ua N4 ub);have O5:=O4.set2 (b:=w.heap.size) (by omega) (.slice tZ D4 cH) (.slice ua N4 ub);have B5:=tg (ag Bd G4) (b:=w.heap.size) (nl _) (.slice tZ D4 cH) (.slice ua N4 ub);refine aR 9 1 rfl λK hK=>?_
         go_simp
         refine hK.out _ _ trivial (λ_=>?_);clear hK;refine aR 10 0 rfl λK hK=>?_
         go_simp
         refine hK.out _ _ trivial (λ_=>?_);clear hK;refine⟨by kernel_rfl,?_⟩;clear x0 x1 f0 f1 X4 O4 Xd Bd G4;generalize (u4.setCell _ _).setCell _ _=u5 at*;have m1:¬9223372036854775807<(ba l).size+T9.size:=by omega
         have m2:¬9223372036854775807<(ba l).size+T9.size+1:=by omega
         have zP:w.heap.size+1<=u5.heap.size:=X5.lt;generalize ba l=l9 at*;go_wp2_with fail
         go_roundw
         case rel=>exact⟨k+1,k+1,A9,L9,_,_,by omega,by omega,by go_num,by go_num,by rw[HB.out],X5,O5,rZ.out,HR2.out,hl2,B5,zP⟩
         case measure=>simp[intOf];omega
        ·have d8:((y9:Int)==10)=false:=by simpa using(show ¬((y9:Int)=10) by omega)
         have d9:(y9==10)=false:=by simpa using h10
         have hR2:=hR.out;rw[Dk.kb hf hlt (by rw[HY.out];exact h10)]at hR2;have HR2:Hid (l++Dk.rest s a f (k+1)=PT):=hR2;clear hR hR2 HY HR;go_wp2_with fail
         go_roundw
         case rel=>exact⟨k+1,f,a,l,v1,v2,by omega,by omega,by go_num,rfl,rfl,X,O,hca.out,HR2.out,by omega,B,hzw⟩
         case measure=>simp[intOf];omega
       ·obtain rfl:k=s.size:=by omega
        have e1:decide ((s.size:Int)<(s.size:Int))=false:=by simp
        have hR2:=hR.out;rw[aa5,List.append_nil]at hR2;subst hR2;clear hR HR;go_wp2_with fail
        go_ret2
        exact⟨rfl,B⟩
     ·obtain⟨e1,e2⟩:=wC h10;subst e1 e2;have d8:((y9:Int)==10)=false:=by simpa using(show ¬((y9:Int)=10) by omega)
      have d9:(y9==10)=false:=by simpa using h10
      clear wB wC;go_wp2_with fail
      go_ret2
      exact⟨rfl,bR _ _⟩
    ·have g0:decide ((0:Int)<(s.size:Int))=false:=dF (by omega);obtain⟨rfl,e2⟩:=Q3.out hb (λh9=>absurd h9 h0);have e3:=aa5 (s:=s) (a:=VC) (f:=0);rw[show s.size=0 by omega]at e3;rw[e3]at e2;subst e2;clear P1 Q2 Q3 e3;have B0:=Zb w (.cells #[.slice none 0 0,.slice none 0 0] 35 (0,0));go_wp2_with fail
     generalize w.alloc _=u0 at*;go_loopw [7,8,9] (λout _ i wr=>out=.string ⟨#[]⟩/\i=.int .i64 0/\wr=u0) (λ_ _ _ _=>0)
     case atStart=>exact⟨rfl,rfl,rfl⟩
     case round =>
      obtain⟨rfl,rfl,rfl⟩:=hrel;go_wp2_with fail
      go_ret2
      exact⟨rfl,B0⟩
end Go.Proofs.YtbjbjbpgmojcbacGreatDoor
