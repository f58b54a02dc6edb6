/- A part of the proof: what it leans on. -/
import Derived.Test.YtbjbjbpgmojcbacGreatDoorDk14
set_option maxRecDepth 8000
set_option maxHeartbeats 4000000
namespace Go.Proofs.YtbjbjbpgmojcbacGreatDoor
open Ar Bk Cd Dk Im Tk Tr Vy
open Tryz
variable{a:Ar.A}{r:ByteArray}{u:ByteArray×Int}{e:Int}{xs xs1 xs2:List Value}{C cap g m n n1 n2 p:Nat}{o:Obj}{ad:Option Addr}{v1 v2:Value}{w w' w0 wr:World}
open Go.RowKit
set_option linter.unusedVariables false
theorem Q6(dict b S:ByteArray)(w:World)(hd:dict.size<=256)(hb:b.size<=140737488355328)(h0:0<b.size)(hS:b.extract 1 b.size=S)(hx:(b[0].toNat:Int)=2)(Z:ByteArray)(hZ:S.extract 8 S.size=Z)(h8:¬S.size<8)(hn:Zt Z.data.toList=none) :
 CB 80 #[.string dict,.string b] w (.tuple #[.string ⟨#[]⟩,.bool false]):=by
 have hne:=bL (b:=b) (by omega);have hb1:(1:Int)<=(b.size:Int):=by omega
 have gI:1<=b.size:=by omega
 have hb0:(0:Int)<(b.size:Int):=by omega
 have hbi:(b.size:Int)<=140737488355328:=by omega
 have hs1:=Zr b 1 b.size;rw[hS]at hs1;have hs2:S.size<=140737488355328:=by omega
 have hz1:=Zr S 8 S.size;rw[hZ]at hz1;have hz2:Z.size<=140737488355328:=by omega
 clear hs1 hz1;have h8':(8:Int)<=(S.size:Int):=by omega
 have vd:8<=S.size:=by omega
 have vU:=dF (by omega:¬((S.size:Int)<8));have Ap:(S.size:Int)<=140737488355328:=by omega
 have c1:=λw=>wU Z w (by omega) hn
 have c2:=λw=>uT (Wa (S.extract 0 8)) ⟨#[]⟩ 0 w
 generalize (VP (Wa (S.extract 0 8)) ⟨#[]⟩ 0).1=X1 at*;generalize (VP (Wa (S.extract 0 8)) ⟨#[]⟩ 0).2=X2 at*;clear hn;have HX:=Za (vT S);generalize Wa (S.extract 0 8)=f at*;have hif:=Zh f;have R3:=ai.new w (λ_=>0);have HB:ae w (w.alloc (.cells (arr λ_=>0) 142)):=(bR _ _).alloc (nl _) _;rw[<-Zs]at R3 HB;go_enter func80,ntmps80
 go_wp2_with fail
 go_region
 go_wp2_with fail
 rw[Zs]at R3 HB;rw[Zs];generalize w.alloc (.cells (arr λ_=>0) 142)=w0 at*
 obtain⟨g3,hg3⟩:∃g3,w.heap.size=g3:=⟨_,rfl⟩
 have hq:=Za (Nat.le_of_eq hg3);have hg3':=hg3;have R3':ai w0 g3 (Wm S 0):=by rw[<-hg3];exact R3.congr (λi _=>by simp[Wm])
 clear R3;rw[hg3'];clear hg3;go_loopw [9] (λi wr=>∃k:Nat,k<=8/\i=.int .i64 k/\ai wr g3 (Wm S k)/\ae w wr) (λi _=>8-(intOf i).toNat)
 case atStart=>exact⟨0,by omega,rfl,R3',HB.drew⟩
 case round =>
  clear R3' HB;obtain⟨k,hk,rfl,R3,HB⟩:=hrel;by_cases hlt:k<8
  ·have hk1:=al (by omega:(k:Int)<8);have hk2:=al (by omega:k<8);have hks:k<S.size:=by omega
   have hk3:(k:Int)<(S.size:Int):=by omega
   obtain⟨x,hxx⟩:∃x:Int,(S[k].toNat:Int)=x:=⟨_,rfl⟩
   have hA:Cd.at8 S k=S[k].toNat:=by unfold Cd.at8;rw[ZX S k hks];rfl
   have hA2:=Xf S k;have hx0:0<=x:=by omega
   have hx1:x<=255:=by omega
   obtain⟨H,hH⟩:∃H,Cd.at8 S k/16=H:=⟨_,rfl⟩
   obtain⟨L,hL⟩:∃L,Cd.at8 S k%16=L:=⟨_,rfl⟩
   have e1:x/16=(H:Int):=by omega
   have e2:x%16=(L:Int):=by omega
   have e3:x.tdiv 16=(H:Int):=by rw[Int.tdiv_eq_ediv_of_nonneg hx0];exact e1
   have e4:x.tmod 16=(L:Int):=by rw[Int.tmod_eq_emod_of_nonneg hx0];exact e2
   have hH2:H<16:=by omega
   have hL2:L<16:=by omega
   have u1:IntKind.u8.wrap (H:Int)=(H:Int):=IntWalk.u8_in _ ⟨by omega,by omega⟩;have u2:IntKind.i64.wrap (H:Int)=(H:Int):=IntWalk.i64_in _ ⟨by omega,by omega⟩;have u3:IntKind.u8.wrap (L:Int)=(L:Int):=IntWalk.u8_in _ ⟨by omega,by omega⟩;have u4:IntKind.i64.wrap (L:Int)=(L:Int):=IntWalk.i64_in _ ⟨by omega,by omega⟩
   obtain⟨K2,cV⟩:∃K2,2*k=K2:=⟨_,rfl⟩
   obtain⟨K3,cW⟩:∃K3,2*k+1=K3:=⟨_,rfl⟩
   have hK2:K2<16:=by omega
   have hK3:K3<16:=by omega
   have m2:2*(k:Int)=(K2:Int):=by omega
   have m3:(K2:Int)+1=(K3:Int):=by omega
   have jN:(K2:Int)<16:=by omega
   have jO:(K3:Int)<16:=by omega
   have w4:IntKind.i64.wrap (K2:Int)=(K2:Int):=IntWalk.i64_in _ ⟨by omega,by omega⟩;have w5:IntKind.i64.wrap (K3:Int)=(K3:Int):=IntWalk.i64_in _ ⟨by omega,by omega⟩;have c1:=R3.cell K2 hK2;have f1:=R3.frozen K2;have c2:=R3.cell K3 hK3;have f2:=R3.frozen K3;have S3:=R3.set K2 (H:Int);have SB:=HB.setCell (p:=⟨g3,K2,none⟩) (by have:=hq.out;show _<=g3;omega) (.int .i64 (H:Int));have T3:=(S3.set K3 (L:Int)).congr (f':=Wm S (k+1)) (λi _=>by rw[<-cV,<-cW,<-hH,<-hL];exact Yv S k i);have TB:=SB.setCell (p:=⟨g3,K3,none⟩) (by have:=hq.out;show _<=g3;omega) (.int .i64 (L:Int));clear hA hA2 hH hL e1 e2 cV cW R3 HB S3 SB;go_wp2_with fail
   go_region
   all_goals go_wp2_with fail
   all_goals go_roundw
   case rel=>exact⟨k+1,by omega,by go_num,T3,TB.drew⟩
   case measure=>simp[intOf];omega
  ·obtain rfl:k=8:=by omega
   have hk1:decide ((8:Int)<8)=false:=by decide
   have R4:=R3.congr (f':=f) (λi _=>HX.out i);clear R3 HX hx;go_wp2_with fail
   refine mo (c1 _) λw1 G1=>?_
   have R5:=R4.below G1;have B5:=ag HB G1;clear R4 HB G1 c1;go_wp2_with (refine wpList_load_row rfl 142 _ rfl g3 rfl 142 (arr f) (0,0) _ R5.2 aF rfl hif ?_)
   refine mo (c2 _) λw2 G2=>?_
   have B6:=ag B5 G2;go_wp2_with fail
   go_ret2
   exact⟨rfl,B6⟩
theorem Q7(dict b S:ByteArray)(w:World)(hd:dict.size<=256)(hb:b.size<=140737488355328)(h0:0<b.size)(hS:b.extract 1 b.size=S)(hx:(b[0].toNat:Int)=2)(Z:ByteArray)(hZ:S.extract 8 S.size=Z)(h8:¬S.size<8)(n k:Nat)(Y:ByteArray)(hn:Zt Z.data.toList=some (n,k))(hY:Z.extract k Z.size=Y)(hE:(VP (Wa (S.extract 0 8)) Y (n:Nat)).2≠0) :
 CB 80 #[.string dict,.string b] w (.tuple #[.string ⟨#[]⟩,.bool false]):=by
 have hne:=bL (b:=b) (by omega);have hb1:(1:Int)<=(b.size:Int):=by omega
 have gI:1<=b.size:=by omega
 have hb0:(0:Int)<(b.size:Int):=by omega
 have hbi:(b.size:Int)<=140737488355328:=by omega
 have hs1:=Zr b 1 b.size;rw[hS]at hs1;have hs2:S.size<=140737488355328:=by omega
 have hz1:=Zr S 8 S.size;rw[hZ]at hz1;have hz2:Z.size<=140737488355328:=by omega
 clear hs1 hz1;have h8':(8:Int)<=(S.size:Int):=by omega
 have vd:8<=S.size:=by omega
 have vU:=dF (by omega:¬((S.size:Int)<8));have Ap:(S.size:Int)<=140737488355328:=by omega
 have c1:=λw=>ra Z w n k (by omega) hn
 rw[hY]at c1;have c2:=λw=>uT (Wa (S.extract 0 8)) Y (n:Nat) w
 generalize (VP (Wa (S.extract 0 8)) Y (n:Nat)).1=X1 at*;generalize (VP (Wa (S.extract 0 8)) Y (n:Nat)).2=X2 at*;have q1:(X2==0)=false:=by simp[hE]
 have q2:(X2 != 0)=true:=by simp[hE]
 clear hn hY;have HX:=Za (vT S);generalize Wa (S.extract 0 8)=f at*;have hif:=Zh f;have R3:=ai.new w (λ_=>0);have HB:ae w (w.alloc (.cells (arr λ_=>0) 142)):=(bR _ _).alloc (nl _) _;rw[<-Zs]at R3 HB;go_enter func80,ntmps80
 go_wp2_with fail
 go_region
 go_wp2_with fail
 rw[Zs]at R3 HB;rw[Zs];generalize w.alloc (.cells (arr λ_=>0) 142)=w0 at*
 obtain⟨g3,hg3⟩:∃g3,w.heap.size=g3:=⟨_,rfl⟩
 have hq:=Za (Nat.le_of_eq hg3);have hg3':=hg3;have R3':ai w0 g3 (Wm S 0):=by rw[<-hg3];exact R3.congr (λi _=>by simp[Wm])
 clear R3;rw[hg3'];clear hg3;go_loopw [9] (λi wr=>∃k:Nat,k<=8/\i=.int .i64 k/\ai wr g3 (Wm S k)/\ae w wr) (λi _=>8-(intOf i).toNat)
 case atStart=>exact⟨0,by omega,rfl,R3',HB.drew⟩
 case round =>
  clear R3' HB;obtain⟨k,hk,rfl,R3,HB⟩:=hrel;by_cases hlt:k<8
  ·have hk1:=al (by omega:(k:Int)<8);have hk2:=al (by omega:k<8);have hks:k<S.size:=by omega
   have hk3:(k:Int)<(S.size:Int):=by omega
   obtain⟨x,hxx⟩:∃x:Int,(S[k].toNat:Int)=x:=⟨_,rfl⟩
   have hA:Cd.at8 S k=S[k].toNat:=by unfold Cd.at8;rw[ZX S k hks];rfl
   have hA2:=Xf S k;have hx0:0<=x:=by omega
   have hx1:x<=255:=by omega
   obtain⟨H,hH⟩:∃H,Cd.at8 S k/16=H:=⟨_,rfl⟩
   obtain⟨L,hL⟩:∃L,Cd.at8 S k%16=L:=⟨_,rfl⟩
   have e1:x/16=(H:Int):=by omega
   have e2:x%16=(L:Int):=by omega
   have e3:x.tdiv 16=(H:Int):=by rw[Int.tdiv_eq_ediv_of_nonneg hx0];exact e1
   have e4:x.tmod 16=(L:Int):=by rw[Int.tmod_eq_emod_of_nonneg hx0];exact e2
   have hH2:H<16:=by omega
   have hL2:L<16:=by omega
   have u1:IntKind.u8.wrap (H:Int)=(H:Int):=IntWalk.u8_in _ ⟨by omega,by omega⟩;have u2:IntKind.i64.wrap (H:Int)=(H:Int):=IntWalk.i64_in _ ⟨by omega,by omega⟩;have u3:IntKind.u8.wrap (L:Int)=(L:Int):=IntWalk.u8_in _ ⟨by omega,by omega⟩;have u4:IntKind.i64.wrap (L:Int)=(L:Int):=IntWalk.i64_in _ ⟨by omega,by omega⟩
   obtain⟨K2,cV⟩:∃K2,2*k=K2:=⟨_,rfl⟩
   obtain⟨K3,cW⟩:∃K3,2*k+1=K3:=⟨_,rfl⟩
   have hK2:K2<16:=by omega
   have hK3:K3<16:=by omega
   have m2:2*(k:Int)=(K2:Int):=by omega
   have m3:(K2:Int)+1=(K3:Int):=by omega
   have jN:(K2:Int)<16:=by omega
   have jO:(K3:Int)<16:=by omega
   have w4:IntKind.i64.wrap (K2:Int)=(K2:Int):=IntWalk.i64_in _ ⟨by omega,by omega⟩;have w5:IntKind.i64.wrap (K3:Int)=(K3:Int):=IntWalk.i64_in _ ⟨by omega,by omega⟩;have c1:=R3.cell K2 hK2;have f1:=R3.frozen K2;have c2:=R3.cell K3 hK3;have f2:=R3.frozen K3;have S3:=R3.set K2 (H:Int);have SB:=HB.setCell (p:=⟨g3,K2,none⟩) (by have:=hq.out;show _<=g3;omega) (.int .i64 (H:Int));have T3:=(S3.set K3 (L:Int)).congr (f':=Wm S (k+1)) (λi _=>by rw[<-cV,<-cW,<-hH,<-hL];exact Yv S k i);have TB:=SB.setCell (p:=⟨g3,K3,none⟩) (by have:=hq.out;show _<=g3;omega) (.int .i64 (L:Int));clear hA hA2 hH hL e1 e2 cV cW R3 HB S3 SB;go_wp2_with fail
   go_region
   all_goals go_wp2_with fail
   all_goals go_roundw
   case rel=>exact⟨k+1,by omega,by go_num,T3,TB.drew⟩
   case measure=>simp[intOf];omega
  ·obtain rfl:k=8:=by omega
   have hk1:decide ((8:Int)<8)=false:=by decide
   have R4:=R3.congr (f':=f) (λi _=>HX.out i);clear R3 HX hx;go_wp2_with fail
   refine mo (c1 _) λw1 G1=>?_
   have R5:=R4.below G1;have B5:=ag HB G1;clear R4 HB G1 c1;go_wp2_with (refine wpList_load_row rfl 142 _ rfl g3 rfl 142 (arr f) (0,0) _ R5.2 aF rfl hif ?_)
   refine mo (c2 _) λw2 G2=>?_
   have B6:=ag B5 G2;clear R5 B5 G2 c2;go_wp2_with fail
   go_ret2
   exact⟨rfl,B6⟩
theorem Q8(dict b S:ByteArray)(w:World)(hd:dict.size<=256)(hb:b.size<=140737488355328)(h0:0<b.size)(hS:b.extract 1 b.size=S)(hx:(b[0].toNat:Int)=2)(Z:ByteArray)(hZ:S.extract 8 S.size=Z)(h8:¬S.size<8)(n k:Nat)(Y:ByteArray)(hn:Zt Z.data.toList=some (n,k))(hY:Z.extract k Z.size=Y)(X1:ByteArray)(hE:VP (Wa (S.extract 0 8)) Y (n:Nat)=(X1,0))(hX:X1.size<=140737488355328)(hm:ZM dict X1=none) :
 CB 80 #[.string dict,.string b] w (.tuple #[.string ⟨#[]⟩,.bool false]):=by
 have hne:=bL (b:=b) (by omega);have hb1:(1:Int)<=(b.size:Int):=by omega
 have gI:1<=b.size:=by omega
 have hb0:(0:Int)<(b.size:Int):=by omega
 have hbi:(b.size:Int)<=140737488355328:=by omega
 have hs1:=Zr b 1 b.size;rw[hS]at hs1;have hs2:S.size<=140737488355328:=by omega
 have hz1:=Zr S 8 S.size;rw[hZ]at hz1;have hz2:Z.size<=140737488355328:=by omega
 clear hs1 hz1;have h8':(8:Int)<=(S.size:Int):=by omega
 have vd:8<=S.size:=by omega
 have vU:=dF (by omega:¬((S.size:Int)<8));have Ap:(S.size:Int)<=140737488355328:=by omega
 have c1:=λw=>ra Z w n k (by omega) hn
 rw[hY]at c1;have c2:=λw=>uT (Wa (S.extract 0 8)) Y (n:Nat) w
 rw[hE]at c2;have c3:=λw=>Gw hd hX hm w
 clear hn hY hE hm;have HX:=Za (vT S);generalize Wa (S.extract 0 8)=f at*;have hif:=Zh f;have R3:=ai.new w (λ_=>0);have HB:ae w (w.alloc (.cells (arr λ_=>0) 142)):=(bR _ _).alloc (nl _) _;rw[<-Zs]at R3 HB;go_enter func80,ntmps80
 go_wp2_with fail
 go_region
 go_wp2_with fail
 rw[Zs]at R3 HB;rw[Zs];generalize w.alloc (.cells (arr λ_=>0) 142)=w0 at*
 obtain⟨g3,hg3⟩:∃g3,w.heap.size=g3:=⟨_,rfl⟩
 have hq:=Za (Nat.le_of_eq hg3);have hg3':=hg3;have R3':ai w0 g3 (Wm S 0):=by rw[<-hg3];exact R3.congr (λi _=>by simp[Wm])
 clear R3;rw[hg3'];clear hg3;go_loopw [9] (λi wr=>∃k:Nat,k<=8/\i=.int .i64 k/\ai wr g3 (Wm S k)/\ae w wr) (λi _=>8-(intOf i).toNat)
 case atStart=>exact⟨0,by omega,rfl,R3',HB.drew⟩
 case round =>
  clear R3' HB;obtain⟨k,hk,rfl,R3,HB⟩:=hrel;by_cases hlt:k<8
  ·have hk1:=al (by omega:(k:Int)<8);have hk2:=al (by omega:k<8);have hks:k<S.size:=by omega
   have hk3:(k:Int)<(S.size:Int):=by omega
   obtain⟨x,hxx⟩:∃x:Int,(S[k].toNat:Int)=x:=⟨_,rfl⟩
   have hA:Cd.at8 S k=S[k].toNat:=by unfold Cd.at8;rw[ZX S k hks];rfl
   have hA2:=Xf S k;have hx0:0<=x:=by omega
   have hx1:x<=255:=by omega
   obtain⟨H,hH⟩:∃H,Cd.at8 S k/16=H:=⟨_,rfl⟩
   obtain⟨L,hL⟩:∃L,Cd.at8 S k%16=L:=⟨_,rfl⟩
   have e1:x/16=(H:Int):=by omega
   have e2:x%16=(L:Int):=by omega
   have e3:x.tdiv 16=(H:Int):=by rw[Int.tdiv_eq_ediv_of_nonneg hx0];exact e1
   have e4:x.tmod 16=(L:Int):=by rw[Int.tmod_eq_emod_of_nonneg hx0];exact e2
   have hH2:H<16:=by omega
   have hL2:L<16:=by omega
   have u1:IntKind.u8.wrap (H:Int)=(H:Int):=IntWalk.u8_in _ ⟨by omega,by omega⟩;have u2:IntKind.i64.wrap (H:Int)=(H:Int):=IntWalk.i64_in _ ⟨by omega,by omega⟩;have u3:IntKind.u8.wrap (L:Int)=(L:Int):=IntWalk.u8_in _ ⟨by omega,by omega⟩;have u4:IntKind.i64.wrap (L:Int)=(L:Int):=IntWalk.i64_in _ ⟨by omega,by omega⟩
   obtain⟨K2,cV⟩:∃K2,2*k=K2:=⟨_,rfl⟩
   obtain⟨K3,cW⟩:∃K3,2*k+1=K3:=⟨_,rfl⟩
   have hK2:K2<16:=by omega
   have hK3:K3<16:=by omega
   have m2:2*(k:Int)=(K2:Int):=by omega
   have m3:(K2:Int)+1=(K3:Int):=by omega
   have jN:(K2:Int)<16:=by omega
   have jO:(K3:Int)<16:=by omega
   have w4:IntKind.i64.wrap (K2:Int)=(K2:Int):=IntWalk.i64_in _ ⟨by omega,by omega⟩;have w5:IntKind.i64.wrap (K3:Int)=(K3:Int):=IntWalk.i64_in _ ⟨by omega,by omega⟩;have c1:=R3.cell K2 hK2;have f1:=R3.frozen K2;have c2:=R3.cell K3 hK3;have f2:=R3.frozen K3;have S3:=R3.set K2 (H:Int);have SB:=HB.setCell (p:=⟨g3,K2,none⟩) (by have:=hq.out;show _<=g3;omega) (.int .i64 (H:Int));have T3:=(S3.set K3 (L:Int)).congr (f':=Wm S (k+1)) (λi _=>by rw[<-cV,<-cW,<-hH,<-hL];exact Yv S k i);have TB:=SB.setCell (p:=⟨g3,K3,none⟩) (by have:=hq.out;show _<=g3;omega) (.int .i64 (L:Int));clear hA hA2 hH hL e1 e2 cV cW R3 HB S3 SB;go_wp2_with fail
   go_region
   all_goals go_wp2_with fail
   all_goals go_roundw
   case rel=>exact⟨k+1,by omega,by go_num,T3,TB.drew⟩
   case measure=>simp[intOf];omega
  ·obtain rfl:k=8:=by omega
   have hk1:decide ((8:Int)<8)=false:=by decide
   have R4:=R3.congr (f':=f) (λi _=>HX.out i);clear R3 HX hx;go_wp2_with fail
   refine mo (c1 _) λw1 G1=>?_
   have R5:=R4.below G1;have B5:=ag HB G1;clear R4 HB G1 c1;go_wp2_with (refine wpList_load_row rfl 142 _ rfl g3 rfl 142 (arr f) (0,0) _ R5.2 aF rfl hif ?_)
   refine mo (c2 _) λw2 G2=>?_
   have B6:=ag B5 G2;clear R5 B5 G2 c2;go_wp2_with fail
   refine(c3 _).mono ?_;rintro e w3 ⟨G3,rfl⟩;have B7:=ag B6 G3;go_wp2_with fail
   go_ret2
   exact⟨rfl,B7⟩
theorem Q9(dict b S:ByteArray)(w:World)(hd:dict.size<=256)(hb:b.size<=140737488355328)(h0:0<b.size)(hS:b.extract 1 b.size=S)(hx:(b[0].toNat:Int)=2)(Z:ByteArray)(hZ:S.extract 8 S.size=Z)(h8:¬S.size<8)(n k:Nat)(Y:ByteArray)(hn:Zt Z.data.toList=some (n,k))(hY:Z.extract k Z.size=Y)(X1:ByteArray)(hE:VP (Wa (S.extract 0 8)) Y (n:Nat)=(X1,0))(hX:X1.size<=140737488355328)(m:List Tk.T)(hm:ZM dict X1=some m) :
 CB 80 #[.string dict,.string b] w (.tuple #[.string (gZ dict m),.bool true]):=by
 have hne:=bL (b:=b) (by omega);have hb1:(1:Int)<=(b.size:Int):=by omega
 have gI:1<=b.size:=by omega
 have hb0:(0:Int)<(b.size:Int):=by omega
 have hbi:(b.size:Int)<=140737488355328:=by omega
 have hs1:=Zr b 1 b.size;rw[hS]at hs1;have hs2:S.size<=140737488355328:=by omega
 have hz1:=Zr S 8 S.size;rw[hZ]at hz1;have hz2:Z.size<=140737488355328:=by omega
 clear hs1 hz1;have h8':(8:Int)<=(S.size:Int):=by omega
 have vd:8<=S.size:=by omega
 have vU:=dF (by omega:¬((S.size:Int)<8));have Ap:(S.size:Int)<=140737488355328:=by omega
 have c1:=λw=>ra Z w n k (by omega) hn
 rw[hY]at c1;have c2:=λw=>uT (Wa (S.extract 0 8)) Y (n:Nat) w
 rw[hE]at c2;have c3:=λw=>Gv hd hX hm w
 have c4:=λad cap w h=>Gx hd hm ad cap w h
 clear hn hY hE hm;generalize gZ dict m=P at*;have HX:=Za (vT S);generalize Wa (S.extract 0 8)=f at*;have hif:=Zh f;have R3:=ai.new w (λ_=>0);have HB:ae w (w.alloc (.cells (arr λ_=>0) 142)):=(bR _ _).alloc (nl _) _;rw[<-Zs]at R3 HB;go_enter func80,ntmps80
 go_wp2_with fail
 go_region
 go_wp2_with fail
 rw[Zs]at R3 HB;rw[Zs];generalize w.alloc (.cells (arr λ_=>0) 142)=w0 at*
 obtain⟨g3,hg3⟩:∃g3,w.heap.size=g3:=⟨_,rfl⟩
 have hq:=Za (Nat.le_of_eq hg3);have hg3':=hg3;have R3':ai w0 g3 (Wm S 0):=by rw[<-hg3];exact R3.congr (λi _=>by simp[Wm])
 clear R3;rw[hg3'];clear hg3;go_loopw [9] (λi wr=>∃k:Nat,k<=8/\i=.int .i64 k/\ai wr g3 (Wm S k)/\ae w wr) (λi _=>8-(intOf i).toNat)
 case atStart=>exact⟨0,by omega,rfl,R3',HB.drew⟩
 case round =>
  clear R3' HB;obtain⟨k,hk,rfl,R3,HB⟩:=hrel;by_cases hlt:k<8
  ·have hk1:=al (by omega:(k:Int)<8);have hk2:=al (by omega:k<8);have hks:k<S.size:=by omega
   have hk3:(k:Int)<(S.size:Int):=by omega
   obtain⟨x,hxx⟩:∃x:Int,(S[k].toNat:Int)=x:=⟨_,rfl⟩
   have hA:Cd.at8 S k=S[k].toNat:=by unfold Cd.at8;rw[ZX S k hks];rfl
   have hA2:=Xf S k;have hx0:0<=x:=by omega
   have hx1:x<=255:=by omega
   obtain⟨H,hH⟩:∃H,Cd.at8 S k/16=H:=⟨_,rfl⟩
   obtain⟨L,hL⟩:∃L,Cd.at8 S k%16=L:=⟨_,rfl⟩
   have e1:x/16=(H:Int):=by omega
   have e2:x%16=(L:Int):=by omega
   have e3:x.tdiv 16=(H:Int):=by rw[Int.tdiv_eq_ediv_of_nonneg hx0];exact e1
   have e4:x.tmod 16=(L:Int):=by rw[Int.tmod_eq_emod_of_nonneg hx0];exact e2
   have hH2:H<16:=by omega
   have hL2:L<16:=by omega
   have u1:IntKind.u8.wrap (H:Int)=(H:Int):=IntWalk.u8_in _ ⟨by omega,by omega⟩;have u2:IntKind.i64.wrap (H:Int)=(H:Int):=IntWalk.i64_in _ ⟨by omega,by omega⟩;have u3:IntKind.u8.wrap (L:Int)=(L:Int):=IntWalk.u8_in _ ⟨by omega,by omega⟩;have u4:IntKind.i64.wrap (L:Int)=(L:Int):=IntWalk.i64_in _ ⟨by omega,by omega⟩
   obtain⟨K2,cV⟩:∃K2,2*k=K2:=⟨_,rfl⟩
   obtain⟨K3,cW⟩:∃K3,2*k+1=K3:=⟨_,rfl⟩
   have hK2:K2<16:=by omega
   have hK3:K3<16:=by omega
   have m2:2*(k:Int)=(K2:Int):=by omega
   have m3:(K2:Int)+1=(K3:Int):=by omega
   have jN:(K2:Int)<16:=by omega
   have jO:(K3:Int)<16:=by omega
   have w4:IntKind.i64.wrap (K2:Int)=(K2:Int):=IntWalk.i64_in _ ⟨by omega,by omega⟩;have w5:IntKind.i64.wrap (K3:Int)=(K3:Int):=IntWalk.i64_in _ ⟨by omega,by omega⟩;have c1:=R3.cell K2 hK2;have f1:=R3.frozen K2;have c2:=R3.cell K3 hK3;have f2:=R3.frozen K3;have S3:=R3.set K2 (H:Int);have SB:=HB.setCell (p:=⟨g3,K2,none⟩) (by have:=hq.out;show _<=g3;omega) (.int .i64 (H:Int));have T3:=(S3.set K3 (L:Int)).congr (f':=Wm S (k+1)) (λi _=>by rw[<-cV,<-cW,<-hH,<-hL];exact Yv S k i);have TB:=SB.setCell (p:=⟨g3,K3,none⟩) (by have:=hq.out;show _<=g3;omega) (.int .i64 (L:Int));clear hA hA2 hH hL e1 e2 cV cW R3 HB S3 SB;go_wp2_with fail
   go_region
   all_goals go_wp2_with fail
   all_goals go_roundw
   case rel=>exact⟨k+1,by omega,by go_num,T3,TB.drew⟩
   case measure=>simp[intOf];omega
  ·obtain rfl:k=8:=by omega
   have hk1:decide ((8:Int)<8)=false:=by decide
   have R4:=R3.congr (f':=f) (λi _=>HX.out i);clear R3 HX hx;go_wp2_with fail
   refine mo (c1 _) λw1 G1=>?_
   have R5:=R4.below G1;have B5:=ag HB G1;clear R4 HB G1 c1;go_wp2_with (refine wpList_load_row rfl 142 _ rfl g3 rfl 142 (arr f) (0,0) _ R5.2 aF rfl hif ?_)
   refine mo (c2 _) λw2 G2=>?_
   have B6:=ag B5 G2;clear R5 B5 G2 c2;go_wp2_with fail
   refine(c3 _).mono ?_;rintro e w3 ⟨G3,ad,cap,rfl,S3⟩;have B7:=ag B6 G3;go_wp2_with fail
   refine mo (c4 ad cap _ S3) λw4 G4=>?_
   have B8:=ag B7 G4;go_wp2_with fail
   go_ret2
   exact⟨rfl,B8⟩
set_option linter.unusedVariables false
def nY(u:ByteArray×Int)(w:World)(e:Ending)(w':World):Prop:=∃x,e=.returned (.tuple #[.string x,.bool (decide (u.2=0))])/\(u.2=0->x=u.1)/\(u.2≠0->u=(⟨#[]⟩,1))/\ae w w'
theorem nZ(hu:u=(⟨#[]⟩,1)){w:World}{x:ByteArray}:∀e w',(e=.returned (.tuple #[.string x,.bool false])/\ae w w')->nY u w e w':=by
 subst hu;intro e w' h;exact⟨x,h.1,λh9=>absurd h9 (by decide),λ_=>rfl,h.2⟩
theorem Aq{x:ByteArray}(hu:u=(x,0)){w:World}:∀e w',(e=.returned (.tuple #[.string x,.bool true])/\ae w w')->nY u w e w':=by
 subst hu;intro e w' h;exact⟨x,h.1,λ_=>rfl,λh9=>absurd rfl h9,h.2⟩
theorem Gy(dict b:ByteArray)(w:World)(hd:dict.size<=256)(hb:b.size<=140737488355328) :
 Calls prog 80 #[.string dict,.string b] w λe w'=>nY (WH dict b) w e w':=by
 by_cases h0:b.size=0
 ·have e:WH dict b=(⟨#[]⟩,1):=by rw[WH,ab (by omega),ax h0]
  obtain rfl:b=⟨#[]⟩:=by
   apply ByteArray.ext;exact Array.eq_empty_of_size_eq_zero h0
  exact(QX dict w).mono (nZ e)
 ·have h1:0<b.size:=by omega
  have hA:=QV h1;have hU:WH dict b=if Cd.at8 b 0=0 then jo (b.extract 1 b.size) else if Cd.at8 b 0=1 then Wv dict (b.extract 1 b.size) else if Cd.at8 b 0=2 then(if(WB (b.extract 1 b.size)).2=0 then Wv dict (WB (b.extract 1 b.size)).1 else(⟨#[]⟩,(WB (b.extract 1 b.size)).2)) else(⟨#[]⟩,1):=by rw[WH,ab (by omega),ab h0]
  have hs1:=Zr b 1 b.size
  obtain⟨S,hS⟩:∃S,b.extract 1 b.size=S:=⟨_,rfl⟩
  rw[hS]at hU hs1;by_cases k0:Cd.at8 b 0=0
  ·rw[ax k0]at hU;have c:=QY dict b S w hd hb h1 hS (by omega);by_cases hl:512<S.size
   ·rw[jo,ax hl]at hU;rw[decide_eq_false (by omega)]at c;exact c.mono (nZ hU)
   ·rw[jo,ab hl]at hU;rw[decide_eq_true (by omega)]at c;exact c.mono (Aq hU)
  ·rw[ab k0]at hU;by_cases k1:Cd.at8 b 0=1
   ·rw[ax k1]at hU
    cases hm:ZM dict S with
    |none =>
     rw[Wv,hm]at hU;exact(Q0 dict b S w hd hb h1 hS (by omega) hm).mono (nZ hU)
    |some m =>
     rw[Wv,hm]at hU;exact(Q4 dict b S w hd hb h1 hS (by omega) m hm).mono (Aq hU)
   ·rw[ab k1]at hU;by_cases k2:Cd.at8 b 0=2
    ·rw[ax k2]at hU;by_cases h8:S.size<8
     ·have e:WB S=(⟨#[]⟩,1):=by rw[WB,ax h8]
      rw[e,ab (by decide)]at hU;exact(Q5 dict b S w hd hb h1 hS (by omega) h8).mono (nZ hU)
     ·cases hn:Zt (S.extract 8 S.size).data.toList with
      |none =>
       rw[aax h8 hn,ab (by decide)]at hU;exact(Q6 dict b S w hd hb h1 hS (by omega) _ rfl h8 hn).mono (nZ hU)
      |some nk =>
       obtain⟨n,k⟩:=nk;rw[yR h8 hn]at hU;by_cases hE:(VP (Wa (S.extract 0 8)) ((S.extract 8 S.size).extract k (S.extract 8 S.size).size) (n:Nat)).2=0
       ·rw[ax hE,ax rfl]at hU;have hz:=L8 _ _ _ hE
        have e9:VP (Wa (S.extract 0 8)) ((S.extract 8 S.size).extract k (S.extract 8 S.size).size) (n:Nat)=((VP (Wa (S.extract 0 8)) ((S.extract 8 S.size).extract k (S.extract 8 S.size).size) (n:Nat)).1,0):=by
         rw[<-hE]
        cases hm:ZM dict (VP (Wa (S.extract 0 8)) ((S.extract 8 S.size).extract k (S.extract 8 S.size).size) (n:Nat)).1 with
        |none =>
         rw[Wv,hm]at hU;exact(Q8 dict b S w hd hb h1 hS (by omega) _ rfl h8 n k _ hn rfl _ e9 hz hm).mono (nZ hU)
        |some m =>
         rw[Wv,hm]at hU;exact(Q9 dict b S w hd hb h1 hS (by omega) _ rfl h8 n k _ hn rfl _ e9 hz m hm).mono (Aq hU)
       ·rw[ab hE,ab (by decide)]at hU;exact(Q7 dict b S w hd hb h1 hS (by omega) _ rfl h8 n k _ hn rfl hE).mono (nZ hU)
    ·rw[ab k2]at hU;exact(QZ dict b S w hd hb h1 hS (by omega)).mono (nZ hU)
theorem Gz(ad af:Option Addr)(cd cf:Nat)(a:Ar.A)(i:Nat)(w:World)(h:bo w ad af a)(hs:ao a)(hc:Vz a=0)(hi:i<a.files.length) :
 CB 87 #[av ad cd af cf a,.int .i64 (i:Nat)] w (.string (WX a.aa (Nm a.files i))):=by
 have hb:=λo=>(bR w.heap.size w).alloc (nl _) o
 obtain⟨m1,m2,m3⟩:=Zj.1 (VV.1 hc).1;have hok:=Y9 (Z0 (VV.1 hc).2 hi);have hh:=(Bool.and_eq_true _ _ ▸ hok.2.2:_/\_).1;have hup:=Ar.FF hok.2.2;have C1:=Za λw' (h9:ae w w')=>zh ad af cd cf a _ w' (h.ds.below h9) hs.nd hh
 have C2:Hid (∀w',Calls prog 80 #[.string (V5 a.aa (Nm a.files i).dict),.string (Nm a.files i).blk] w' λe w2=>nY (Wd a.aa (Nm a.files i)) w' e w2):=λw'=>Gy _ _ w' (XJ (VV.1 hc).1 _) (hs.bk i)
 obtain⟨b,off,rfl,hbl,hcell⟩:=h.fs.at hi;obtain⟨c0,c1,c2,c3,c4⟩:=hcell;unfold WX;unfold nY at C2;unfold av at C1 |-
 generalize V5 a.aa (Nm a.files i).dict=X at*;generalize (Nm a.files i).dict=f1 at*;generalize (Nm a.files i).blk=f4 at*
 obtain⟨⟨T,E⟩,GB⟩:∃p,Wd a.aa (Nm a.files i)=p:=⟨_,rfl⟩
 rw[GB]at hup C2 |-
 simp only at hup C2 |-
 subst hup
 have C3:Hid (∀w',CB 80 #[.string X,.string f4] w' (.tuple #[.string T,.bool true])):=λw'=>(C2.out w').mono (by
  rintro e w2 ⟨x,rfl,h1,_,G⟩
  exact⟨by rw[h1 rfl];rfl,G⟩)
 clear C2;clear GB hok hh h hs hc c0 c2 c3;generalize a.aa.length=D at*;generalize a.files.length=N at*;have hii:(i:Int)<(N:Int):=by omega
 have hNi:(N:Int)<=12:=by omega
 go_enter func87,ntmps87
 go_wp2_with fail
 have a0:(w.alloc (.cells #[.slice ad D cd,.slice (some ⟨b,off,none⟩) N cf] 35 (0,0))).cell? ⟨w.heap.size,0,none⟩=some (.slice ad D cd):=cN _ _ _ 0;have a1:(w.alloc (.cells #[.slice ad D cd,.slice (some ⟨b,off,none⟩) N cf] 35 (0,0))).cell? ⟨w.heap.size,1,none⟩=some (.slice (some ⟨b,off,none⟩) N cf):=cN _ _ _ 1;have B1:=hb (.cells #[.slice ad D cd,.slice (some ⟨b,off,none⟩) N cf] 35 (0,0));have hz:w.heap.size<(w.alloc (.cells #[.slice ad D cd,.slice (some ⟨b,off,none⟩) N cf] 35 (0,0))).heap.size:=by simp
 generalize (w.alloc (.cells #[.slice ad D cd,.slice (some ⟨b,off,none⟩) N cf] 35 (0,0)))=w1 at*;have k1:=(B1.cell (p:=⟨b,off+i*5+1,none⟩) hbl).trans c1;have k4:=(B1.cell (p:=⟨b,off+i*5+4,none⟩) hbl).trans c4;have dV:=nT hbl B1.size
 have HS:Hid (∀w',ae w1 w'->ae w1 w'/\w'.cell? ⟨w.heap.size,0,none⟩=some (.slice ad D cd)/\w'.cell? ⟨w.heap.size,1,none⟩=some (.slice (some ⟨b,off,none⟩) N cf)/\w'.cell? ⟨b,off+i*5+1,none⟩=some (.int .i64 f1)/\w'.cell? ⟨b,off+i*5+4,none⟩=some (.string f4)):=λw' h9 =>
  ⟨h9,(h9.cell (p:=⟨w.heap.size,0,none⟩) hz).trans a0,(h9.cell (p:=⟨w.heap.size,1,none⟩) hz).trans a1,(h9.cell (p:=⟨b,off+i*5+1,none⟩) dV).trans k1,(h9.cell (p:=⟨b,off+i*5+4,none⟩) dV).trans k4⟩
 have As:=Za λw' (h9:ae w1 w')=>C1.out w' (ag B1 h9)
 clear a0 a1 k1 k4 c1 c4 C1;go_region_held3 (λw'=>ae w1 w'/\w'.cell? ⟨w.heap.size,0,none⟩=some (.slice ad D cd)/\w'.cell? ⟨w.heap.size,1,none⟩=some (.slice (some ⟨b,off,none⟩) N cf)/\w'.cell? ⟨b,off+i*5+1,none⟩=some (.int .i64 f1)/\w'.cell? ⟨b,off+i*5+4,none⟩=some (.string f4))
  (first|(exact HS.out _ ((bR _ _).drew))|(exact HS.out _ (ag (And.left (by assumption)) G6))|(exact HS.out _ (ag (And.left (by assumption)) G5)))
  (first
   |(go_at_call 81;refine(As.out _ ?_).mono ?_;exact And.left (by assumption);rintro e w5 ⟨rfl,G5⟩)
   |(go_at_call 80;refine(C3.out _).mono ?_;rintro e w6 ⟨rfl,G6⟩))
 all_goals
  have B6:=ag B1 (ag (ag ((bR _ _).drew) G5) G6);go_wp2_with fail
  go_ret
  exact⟨rfl,B6⟩
theorem GC(ad af:Option Addr)(cd cf:Nat)(a:Ar.A)(name:ByteArray)(w:World)(h:bo w ad af a)(hs:ao a)
 (CA:∀w',ae w w'->CB 44 #[av ad cd af cf a] w' (.int .i64 (Vz a))) :
 CB 50 #[av ad cd af cf a,.string name] w (.tuple #[.string (bD a name),.int .i64 (VE a name)]):=by
 have hb:=λo=>(bR w.heap.size w).alloc (nl _) o
 have C1:=Za CA;clear CA;by_cases hc:Vz a=0
 ·obtain⟨m1,m2,m3⟩:=Zj.1 (VV.1 hc).1;have pe:=zi (Xk hc) name;have C2:Hid (∀w',ae w w'->CB 86 #[av ad cd af cf a,.string name] w' (.int .i64 (match Xz a.files name a.files.length with|none=>-1|some i=>(i:Int)))):=λw' h9=>Ao ad af cd cf a name w' (h.fs.below h9) m2
  rw[pe]at C2;rw[hc]at C1
  cases hT:ZI a.files name with
  |false =>
   have e5:VE a name=5:=by unfold VE;rw[ab (λh9=>h9 hc),ab (by rw[hT];decide)]
   have eT:bD a name=⟨#[]⟩:=by unfold bD;rw[e5,ab (by decide)]
   rw[e5,eT];rw[hT,ab (by decide)]at C2;simp only at C2;unfold av at C1 C2 |-
   clear h hs hc pe hT e5 eT m3;generalize a.aa.length=D at*;generalize a.files.length=N at*;go_enter func50,ntmps50
   go_wp2_with fail
   refine mo (C1.out _ (hb _)) λw1 G=>?_
   have a0:=(G.cell (p:=⟨w.heap.size,0,none⟩) (by simp)).trans (cN _ _ _ 0);have a1:=(G.cell (p:=⟨w.heap.size,1,none⟩) (by simp)).trans (cN _ _ _ 1);simp at a0 a1;have B1:=ag (hb _) G;clear G;go_wp2_with fail
   refine mo (C2.out _ B1) λw2 G=>?_
   go_wp2_with fail
   go_ret2
   exact⟨rfl,ag B1 G⟩
  |true =>
   have hp:=(ZH hT).1;have e5:VE a name=0:=by unfold VE;rw[ab (λh9=>h9 hc),ax hT]
   have eT:bD a name=WX a.aa (Nm a.files (VG a.files name)):=by unfold bD;rw[ax e5]
   rw[e5,eT];rw[hT,ax rfl]at C2;simp only at C2;have C3:=Za λw' (h9:ae w w')=>Gz ad af cd cf a _ w' (h.below h9) hs hc hp
   generalize WX a.aa (Nm a.files (VG a.files name))=T at*;generalize VG a.files name=p at*;unfold av at C1 C2 C3 |-
   clear h hs hc pe hT e5 eT m3;generalize a.aa.length=D at*;generalize a.files.length=N at*;have hpn:¬(p:Int)<0:=by omega
   have Vn:=dF hpn;go_enter func50,ntmps50
   go_wp2_with fail
   refine mo (C1.out _ (hb _)) λw1 G=>?_
   have a0:=(G.cell (p:=⟨w.heap.size,0,none⟩) (by simp)).trans (cN _ _ _ 0);have a1:=(G.cell (p:=⟨w.heap.size,1,none⟩) (by simp)).trans (cN _ _ _ 1);simp at a0 a1;have hz1:w.heap.size<w1.heap.size:=cL w1 _ a0;have B1:=ag (hb _) G;clear G;go_wp2_with fail
   refine mo (C2.out _ B1) λw2 G=>?_
   have k0:=(G.cell (p:=⟨w.heap.size,0,none⟩) hz1).trans a0;have k1:=(G.cell (p:=⟨w.heap.size,1,none⟩) hz1).trans a1;have B2:=ag B1 G;clear G a0 a1;go_wp2_with fail
   refine mo (C3.out _ B2) λw3 G=>?_
   go_wp2_with fail
   go_ret2
   exact⟨rfl,ag B2 G⟩
 ·have e:VE a name=Vz a:=by unfold VE;rw[ax hc]
  have e2:bD a name=⟨#[]⟩:=by unfold bD;rw[e,ab hc]
  rw[e,e2];unfold av at C1 |-
  generalize Vz a=E at*;generalize a.aa.length=D at*;generalize a.files.length=N at*;have e1:(E != 0)=true:=by simpa using hc
  have e3:(E==0)=false:=by simpa using hc
  clear h hs e e2;go_enter func50,ntmps50
  go_wp2_with fail
  refine mo (C1.out _ (hb _)) λw1 G=>?_
  go_wp2_with fail
  go_ret2
  exact⟨rfl,ag (hb _) G⟩
theorem Au{name:ByteArray}(h9:VE a name=0):(bD a name).size<=512:=by
 obtain⟨h1,h2⟩:=zq h9;unfold bD;rw[ax h9];have h3:=(ZH h2).1;exact YP h1 (by rw[eP h3];exact gM h3)
theorem Ra(ad af:Option Addr)(cd cf:Nat)(a:Ar.A)(name:ByteArray)(i n:Int)(w:World)(h:bo w ad af a)(hs:ao a)(hi:-9223372036854775808<=i/\i<=9223372036854775807)(hn:-9223372036854775808<=n/\n<=9223372036854775807)
 (CA:∀w',ae w w'->CB 44 #[av ad cd af cf a] w' (.int .i64 (Vz a))) :
 CB 51 #[av ad cd af cf a,.string name,.int .i64 i,.int .i64 n] w (.tuple #[.string (W7 a name i n),.int .i64 (WO a name i n)]):=by
 have hb:=λo=>(bR w.heap.size w).alloc (nl _) o
 have c1:=λo=>GC ad af cd cf a name (w.alloc o) (h.below (hb o)) hs (λw' h9=>CA w' (ag (hb o) h9))
 have hT:=λ(h9:VE a name=0)=>Au h9
 have R1:=λhE h=>aaD (a:=a) (name:=name) (i:=i) (n:=n) hE h
 have R2:=λhE h=>Fg (a:=a) (name:=name) (i:=i) (n:=n) hE h
 have R3:=λhE=>Fh (a:=a) (name:=name) (i:=i) (n:=n) hE
 generalize WO a name i n=RE at*;generalize W7 a name i n=RT at*;unfold av at c1 |-
 generalize VE a name=E at*;generalize bD a name=T at*;generalize a.aa.length=D at*;generalize a.files.length=F at*;clear h hs CA;by_cases hE:E=0
 ·subst hE;have zA:=hT rfl;have Vo:(T.size:Int)<=512:=by omega
  have W1:=λw=>ZQ i 0 (T.size:Int) w
  by_cases h1:0<=i/\i<=(T.size:Int)
  ·have hw:IntKind.i64.wrap ((T.size:Int)-i)=(T.size:Int)-i:=IntWalk.i64_in _ ⟨by omega,by omega⟩;have W2:=λw=>ZQ n 0 ((T.size:Int)-i) w
   rw[decide_eq_true h1]at W1;by_cases h2:0<=n/\n<=(T.size:Int)-i
   ·rw[decide_eq_true h2]at W2;obtain⟨rfl,rfl⟩:=R1 rfl (by omega);clear R1 R2 R3
    obtain⟨I,rfl⟩:∃I:Nat,i=(I:Int):=⟨i.toNat,by omega⟩
    obtain⟨N,rfl⟩:∃N:Nat,n=(N:Int):=⟨n.toNat,by omega⟩
    rw[Int.toNat_natCast,Int.toNat_natCast];have h4:(I:Int)+(N:Int)<=(T.size:Int):=by omega
    have h5:(I:Int)<=(I:Int)+(N:Int):=by omega
    go_enter func51,ntmps51
    go_wp2_with fail
    refine mo (c1 _) λw1 G=>?_
    go_wp2_with fail
    refine mo (W1 _) ?_;rintro w2 rfl;go_wp2_with fail
    refine mo (W2 _) ?_;rintro w3 rfl;go_wp2_with fail
    go_ret2
    exact⟨rfl,ag (hb _) G⟩
   ·rw[decide_eq_false h2]at W2;obtain⟨rfl,rfl⟩:=R2 rfl (by omega);go_enter func51,ntmps51
    go_wp2_with fail
    refine mo (c1 _) λw1 G=>?_
    go_wp2_with fail
    refine mo (W1 _) ?_;rintro w2 rfl;go_wp2_with fail
    refine mo (W2 _) ?_;rintro w3 rfl;go_wp2_with fail
    go_ret2
    exact⟨rfl,ag (hb _) G⟩
  ·rw[decide_eq_false h1]at W1;obtain⟨rfl,rfl⟩:=R2 rfl (by omega);go_enter func51,ntmps51
   go_wp2_with fail
   refine mo (c1 _) λw1 G=>?_
   go_wp2_with fail
   refine mo (W1 _) ?_;rintro w2 rfl;go_wp2_with fail
   go_ret2
   exact⟨rfl,ag (hb _) G⟩
 ·obtain⟨sI,rfl⟩:=R3 hE;rw[sI];clear sI R1 R2 R3;have e1:(E != 0)=true:=by simpa using hE
  have e2:(E==0)=false:=by simpa using hE
  go_enter func51,ntmps51
  go_wp2_with fail
  refine mo (c1 _) λw1 G=>?_
  go_wp2_with fail
  go_ret2
  exact⟨rfl,ag (hb _) G⟩
section
variable {P:Program} {w:World}
theorem Rb(w:World)(t ty e:TypeId)(i:TypeInfo)(ht:P.underlying t=some (.slice e))(hi:P.info? e=some i)(b0:Addr)(n c0:Nat)(hle:n<=c0)(p:Option Addr)(c:Nat) :
 (Builtin.append_ #[t,t] ty #[.slice (some b0) n c0,.slice p 0 c]).run P w=.ok (.slice (some b0) n c0) w:=by
 cases p<;>simp[Builtin.append_,run_underlying ht,sizeOf,typeInfo,hi,Builtin.lenOf,Builtin.firstCells,loadCells,loadCellsFrom,storeCells,hle]
theorem vV{ops:Array Oper}{rest:List Oper}{o:Oper}{a:Act}{Q:Exit->Act->World->Prop}(hgd:o.guard=none)(s x:Operand)(t:TypeId)
 (ho:o.op=.call { callee:=.builtin .append,args:=#[s,x],argTypes:=#[t,t] })
 (base:Nat) (e:TypeId) (i:TypeInfo) (z:Value) (size bytes:Nat) (ht:P.underlying t=some (.slice e)) (hi:P.info? e=some i) (hz:i.zero=some z)
 (hsize:i.size=size) (hby:i.bytes=bytes) (hzs:z.cells.size=size) (hsz:0<size)
 (g0 n c0:Nat) (xs:List Value) (hs:a.eval s=.slice (some ⟨g0,0,none⟩) n c0) (hown:w.ownsRow base e size (.slice (some ⟨g0,0,none⟩) n c0) n xs)
 (ad:Option Addr) (m c:Nat) (news:List Value) (hx:a.eval x=.slice ad m c) (hl:news.length=m*size) (hnews:m=0\/∃b,ad=some b/\∀j u,news[j]?=some u->w.cell? (b.add j)=some u) (h1:∀u∈news,u.oneCell'=true)
 (h63:n+m<=maxLen) (hbytes:(n+m)*bytes<=140737488355328) (hbase:base<=w.heap.size) (H:Nat) (hH:w.heap.size=H)
 (h:∀g cap w',w'.ownsRow base e size (.slice (some ⟨g,0,none⟩) (n+m) cap) (n+m) (xs++news)->w.grownBy w' (some g0)->(g=g0\/g=H)->wpList P ops Q rest (a.put o.dst (.slice (some ⟨g,0,none⟩) (n+m) cap)) w'):wpList P ops Q (o :: rest) a w:=by
 by_cases hm:m=0
 ·subst hm;obtain rfl:news=[]:=lZ.1 (by rw[hl];omega)
  have hle:n<=c0:=by
   rcases hown.2 with⟨h9,_⟩|⟨g,cap,cur,h9,_,_,h8,_⟩
   ·cases h9
   ·simp only[Value.slice.injEq]at h9;obtain⟨_,_,rfl⟩:=h9;exact h8
  refine wpList_plain hgd λK hK=>?_
  have hr:=Rb (P:=P) w t o.type e i ht hi ⟨g0,0,none⟩ n c0 hle ad c;unfold Oper.wp execOp;simp only[ho,resolve,invoke,builtin,Sem.run_bind,Sem.run_pure,Result.andThen_ok,List.map_toArray,List.map_cons,List.map_nil,hs,hx,hr];have h9:=h g0 c0 w (by rw[Nat.add_zero,List.append_nil];exact hown) ⟨rfl,rfl,rfl,nl _,λ_ _ _=>rfl⟩ (.inl rfl);rw[Nat.add_zero]at h9;exact hK _ _ h9
 ·rcases hnews with h9|⟨b,rfl,hnews⟩
  ·exact absurd h9 hm
  ·refine kd w hgd s x t ho base e i z size bytes ht hi hz hsize hby hzs hsz _ n xs hs hown b m c news hx hl hnews h1 (by omega) h63 hbytes hbase H hH (λg cap w' h2 h3 h4 _=>h g cap w' h2 h3 ?_);rcases h4 with h4|h4
   ·simp only[Value.ownBlock,Option.some.injEq]at h4;exact .inl h4.symm
   ·exact .inr h4
end
theorem cx.br{w2:World}{lo:Nat}{ys:List Value}(h:cx w0 wr C lo v1 v2 n1 n2 xs1 xs2)(hg:(wr.alloc o).grownBy w2 v2.ownBlock)
 (ho:w2.ownsRow lo 73 5 (.slice (some ⟨g,0,none⟩) m cap) m ys) (hl:v2.ownBlock=some g\/g=(wr.alloc o).heap.size) :
 (w2.cell? ⟨C,1,none⟩=some v2/\w2.frozen? ⟨C,1,none⟩=false)/\cx w0 (w2.setCell ⟨C,1,none⟩ (.slice (some ⟨g,0,none⟩) m cap)) C lo v1 (.slice (some ⟨g,0,none⟩) m cap) n1 m xs1 ys:=by
 have hB:=h.hb;have ic:=h.hC;have hsz:(wr.alloc o).heap.size=wr.heap.size+1:=by simp
 have ha:=h.below ((bR _ _).alloc (nl _) o);have n0:=h.a2.symm;have k0:=Zg hg ha.c0 n0;have k1:=Zg hg ha.c1 n0;have q0:=Zv hg (by omega) ha.f0 n0;have q1:=Zv hg (by omega) ha.f1 n0;have hsg:=Ze w2 ⟨C,1,none⟩ (.slice (some ⟨g,0,none⟩) m cap);have hz:=hg.size
 have gN:g≠C:=by
  rcases hl with hl|hl
  ·rintro rfl;exact h.a2 hl
  ·omega
 refine⟨⟨k1,q1⟩,?_,cS _ _ _ k1,by rw[World.frozen?_setCell];exact q0,by rw[World.frozen?_setCell];exact q1,?_,ho.kept hsg (.inr (by simp[Value.ownBlock];exact gN)),?_,h.a1,by simp[Value.ownBlock];exact gN,ic,?_,?_⟩
 ·exact(cO w2 _ _ _ (by intro e;have:=congrArg Addr.off e;simp at this)).trans k0
 ·refine(ha.o1.kept hg ?_).kept hsg (.inr h.a1)
  cases hv:v1.ownBlock with
  |none=>exact .inl rfl
  |some j=>exact .inr (λe=>h.ne j hv e.symm)
 ·intro j hj e;simp[Value.ownBlock]at e;subst e;rcases hl with hl|hl
  ·exact h.ne g hj hl
  ·have:=(h.o1.lt g hj).2;omega
 ·have:=hsg.size;omega
 ·exact((h.bel.alloc (by omega) o).grown hg (by omega) (λj hj=>(h.o2.lt j hj).1)).setCell ic _
theorem cx.mN{w2:World}{lo:Nat}(h:cx w0 wr C lo v1 v2 n1 n2 xs1 xs2)(hg:(wr.alloc o).grownBy w2 v2.ownBlock):w2.cell? ⟨C,0,none⟩=some v1/\Below lo w0 w2:=by
 have hB:=h.hb;have ic:=h.hC;have hsz:(wr.alloc o).heap.size=wr.heap.size+1:=by simp
 have ha:=h.below ((bR _ _).alloc (nl _) o);exact⟨Zg hg ha.c0 h.a2.symm,(h.bel.alloc (by omega) o).grown hg (by omega) (λj hj=>(h.o2.lt j hj).1)⟩
theorem cx.new1{lo:Nat}(hb:Below lo w0 wr)(hl:lo<=wr.heap.size)(h:wr.ownsRow lo 9 1 (.slice (some ⟨g,0,none⟩) n cap) n xs) :
 cx w0 (wr.alloc (.cells #[.slice (some ⟨g,0,none⟩) n cap,.slice none 0 0] 35 (0,0))) wr.heap.size lo (.slice (some ⟨g,0,none⟩) n cap) (.slice none 0 0) n 0 xs []:=by
 have hg:=(h.lt g rfl).2;exact⟨cN _ _ _ 0,cN _ _ _ 1,fN _ _ _ _ rfl,fN _ _ _ _ rfl,h.alloc _,⟨rfl,.inl ⟨rfl,rfl⟩⟩,λj _ e=>by simp[Value.ownBlock]at e,by simp[Value.ownBlock];omega,by simp[Value.ownBlock],hl,by simp,hb.alloc hl _⟩
theorem cx.new2{lo:Nat}(hb:Below lo w0 wr)(hl:lo<=wr.heap.size)(h:wr.ownsRow lo 73 5 (.slice (some ⟨g,0,none⟩) n cap) n xs) :
 cx w0 (wr.alloc (.cells #[.slice none 0 0,.slice (some ⟨g,0,none⟩) n cap] 35 (0,0))) wr.heap.size lo (.slice none 0 0) (.slice (some ⟨g,0,none⟩) n cap) 0 n [] xs:=by
 have hg:=(h.lt g rfl).2;exact⟨cN _ _ _ 0,cN _ _ _ 1,fN _ _ _ _ rfl,fN _ _ _ _ rfl,⟨rfl,.inl ⟨rfl,rfl⟩⟩,h.alloc _,λj e _=>by simp[Value.ownBlock]at e,by simp[Value.ownBlock],by simp[Value.ownBlock];omega,hl,by simp,hb.alloc hl _⟩
theorem vW(w:World)(lo:Nat)(e:TypeId)(size:Nat)(hl:lo<=w.heap.size):(w.alloc (.cells #[] e (0,0))).ownsRow lo e size (.slice (some ⟨w.heap.size,0,none⟩) 0 0) 0 []:=by
 refine⟨by simp,.inr ⟨w.heap.size,0,#[],rfl,hl,?_,nl _,Nat.zero_le _,by simp,by simp⟩⟩;show(w.heap.push (.cells #[] e (0,0)))[w.heap.size]?=_;simp
theorem GD(g o j:Nat):(⟨g,o,none⟩:Addr).add j=⟨g,o+j,none⟩:=by unfold Addr.add;split<;>simp_all
theorem bz.news{l:List ByteArray}(h:bz w ad l):l.length=0\/∃b,ad=some b/\∀j u,(l.map Value.string)[j]?=some u->w.cell? (b.add j)=some u:=by
 rcases h with rfl|⟨b,off,rfl,_,h⟩
 ·exact .inl rfl
 ·refine .inr ⟨_,rfl,λj u hj=>?_⟩;rw[GD]
  have hl:j<l.length:=by
   rcases Nat.lt_or_ge j l.length with h9|h9
   ·exact h9
   ·rw[List.getElem?_eq_none (by rw[List.length_map];exact h9)]at hj;cases hj
  rw[h j hl,<-hj];simp[VA,hl]
namespace Im
theorem ey{α:Type}{p:ByteArray->Option (α×ByteArray)}{s:ByteArray}{k:Nat}(h:eG p k s=none):∀d,eG p (k+d) s=none
 |0=>h
 |d+1=>by rw[<-Nat.add_assoc,eG,ey h d]
theorem GH{α:Type}{p:ByteArray->Option (α×ByteArray)}{s:ByteArray}{k n:Nat}(h:eG p k s=none)(hk:k<=n):eG p n s=none:=by
 have:=ey h (n-k);rw[show k+(n-k)=n by omega]at this;exact this
theorem GI{α:Type}{p:ByteArray->Option (α×ByteArray)}{s r q:ByteArray}{k:Nat}{l:List α}{x:α}(h:eG p k s=some (l,r))(h2:p r=some (x,q)):eG p (k+1) s=some (l++[x],q):=by
 rw[eG,h];simp only;rw[h2]
theorem aaL{α:Type}{p:ByteArray->Option (α×ByteArray)}{s r:ByteArray}{k:Nat}{l:List α}(h:eG p k s=some (l,r))(h2:p r=none):eG p (k+1) s=none:=by
 rw[eG,h];simp only;rw[h2]
end Im
theorem Rc(s:ByteArray):oY ⟨#[112,114,101,115,115]⟩ s=(oP s).map (λr=>((),r)):=by
 have hz:(⟨#[112,114,101,115,115]⟩:ByteArray).size=5:=rfl
 have hp:pfx ⟨#[112,114,101,115,115]⟩ s=decide (s.data.toList.take 5=XV):=by
  unfold pfx;rw[hz,ByteArray.toList_eq,ByteArray.toList_eq,pG];show(decide (5<=s.size)&&(s.data.toList.take 5==XV))=_;by_cases e:s.data.toList.take 5=XV
  ·have h5:5<=s.size:=by
    have:=congrArg List.length e;rw[List.length_take,<-Zf]at this;have h2:XV.length=5:=rfl;omega
   rw[e,decide_eq_true h5];rfl
  ·rw[decide_eq_false e,beq_eq_false_iff_ne.2 e,Bool.and_false]
 unfold oY oP;rw[hp,hz];by_cases e:s.data.toList.take 5=XV
 ·rw[ax (by simp[e]),ax e];rfl
 ·rw[ab (by simp[e]),ab e];rfl
theorem On.low{w1 w2:World}(h:On p w w1){lo:Nat}(hl:w.heap.size<=lo)(g:Below lo w1 w2):On p w w2 :=
 ⟨g.os.trans h.os,g.tape.trans h.tape,g.output.trans h.output,nt h.size g.size,λk hk hne=>(g.block k (by omega)).trans (h.block k hk hne)⟩
theorem cR.lo{w1 w2:World}{p lo:Nat}{s:ByteArray}(h:cR w1 p s)(g:Below lo w1 w2)(hp:p<lo):cR w2 p s :=
 ⟨(g.cell (p:=⟨p,0,none⟩) hp).trans h.c,(g.frozen (p:=⟨p,0,none⟩) hp).trans h.f⟩
theorem cx.on{lo:Nat}(h:cx w0 wr C lo v1 v2 n1 n2 xs1 xs2)(g:On p wr w')(hp:p<lo):cx w' w' C lo v1 v2 n1 n2 xs1 xs2:=by
 have hC:=h.hC;have hb:=g.block C h.hb (by simp;omega);have e1:v1.ownBlock≠some p:=λe=>by have:=(h.o1.lt p e).1;omega
 have e2:v2.ownBlock≠some p:=λe=>by have:=(h.o2.lt p e).1;omega
 refine⟨(fZ (w:=wr) (a:=⟨C,0,none⟩) hb).trans h.c0,(fZ (w:=wr) (a:=⟨C,1,none⟩) hb).trans h.c1,(fB (w:=wr) (a:=⟨C,0,none⟩) hb).trans h.f0,(fB (w:=wr) (a:=⟨C,1,none⟩) hb).trans h.f1,h.o1.kept g (.inr e1),h.o2.kept g (.inr e2),h.ne,h.a1,h.a2,h.hC,nT h.hb g.size,bR _ _⟩
def jW(r:Option Ar.A)(p:Nat)(w:World)(e:Ending)(w':World):Prop:=On p w w'/\match r with
 |none=>e=.panicked PN
 |some a=>∃v1 v2,e=.returned (.agg #[v1,v2])/\aD w.heap.size w' v1 v2 a/\cR w' p ⟨#[]⟩
theorem cx.start(w:World)(lo:Nat)(hl:lo<=w.heap.size)(T:TypeId):cx (w.alloc (.cells #[.slice none 0 0,.slice none 0 0] T (0,0))) (w.alloc (.cells #[.slice none 0 0,.slice none 0 0] T (0,0))) w.heap.size lo (.slice none 0 0) (.slice none 0 0) 0 0 [] [] :=
 ⟨cN _ _ _ 0,cN _ _ _ 1,fN _ _ _ _ rfl,fN _ _ _ _ rfl,⟨rfl,.inl ⟨rfl,rfl⟩⟩,⟨rfl,.inl ⟨rfl,rfl⟩⟩,λj e _=>by simp[Value.ownBlock]at e,by simp[Value.ownBlock],by simp[Value.ownBlock],hl,by simp,bR _ _⟩
structure RS(w wr:World)(p:Nat)(v1 v2:Value)(n1 n2:Nat)(xs1 xs2:List Value)(r:ByteArray):Prop where
 s:cx wr wr (w.heap.size+1) (w.heap.size+1) v1 v2 n1 n2 xs1 xs2
 g:On p w wr
 r:cR wr p r
 x:Bx wr w.heap.size (.slice none 0 0) (.slice none 0 0)
 hp:p<w.heap.size
theorem RS.on{r':ByteArray}(h:RS w wr p v1 v2 n1 n2 xs1 xs2 r)(g:On p wr w')(hr:cR w' p r'):RS w w' p v1 v2 n1 n2 xs1 xs2 r':=by
 have hp:=h.hp;have hb:=g.block w.heap.size h.x.lt (by simp;omega);exact⟨h.s.on g (by omega),h.g.past g,hr,⟨(fZ (w:=wr) (a:=⟨w.heap.size,0,none⟩) hb).trans h.x.c0,(fZ (w:=wr) (a:=⟨w.heap.size,1,none⟩) hb).trans h.x.c1,(fB (w:=wr) (a:=⟨w.heap.size,0,none⟩) hb).trans h.x.f0,(fB (w:=wr) (a:=⟨w.heap.size,1,none⟩) hb).trans h.x.f1,nT h.x.lt g.size⟩,hp⟩
theorem RS.next{wq:World}{u1 u2:Value}{m1 m2:Nat}{ys1 ys2:List Value}(h:RS w wr p v1 v2 n1 n2 xs1 xs2 r)(c:cx wr wq (w.heap.size+1) (w.heap.size+1) u1 u2 m1 m2 ys1 ys2):RS w wq p u1 u2 m1 m2 ys1 ys2 r:=by
 have hp:=h.hp;have G:=c.bel;exact⟨⟨c.c0,c.c1,c.f0,c.f1,c.o1,c.o2,c.ne,c.a1,c.a2,c.hC,c.hb,bR _ _⟩,h.g.low (by omega) G,h.r.lo G (by omega),⟨(G.cell (p:=⟨w.heap.size,0,none⟩) (by simp)).trans h.x.c0,(G.cell (p:=⟨w.heap.size,1,none⟩) (by simp)).trans h.x.c1,(G.frozen (p:=⟨w.heap.size,0,none⟩) (by simp)).trans h.x.f0,(G.frozen (p:=⟨w.heap.size,1,none⟩) (by simp)).trans h.x.f1,nT h.x.lt G.size⟩,hp⟩
theorem RS.drew(h:RS w wr p v1 v2 n1 n2 xs1 xs2 r):RS w wr.drew p v1 v2 n1 n2 xs1 xs2 r:=h.next (h.s.below ((Below.refl _ _).drew))
def Ar.gg(fs:List Ar.F)(n:Int):Nat->Bool
 |0=>false
 |k+1=>Ar.gg fs n k||decide ((Nm fs k).dict=n)
theorem GK{fs:List Ar.F}{n:Int}:∀{k:Nat},k<=fs.length->(Ar.gg fs n k=(fs.take k).any λf=>decide (f.dict=n))
 |0,_=>by simp[Ar.gg]
 |k+1,h=>by
  rw[Ar.gg,GK (by omega),YL (by omega),List.any_append];simp
theorem Re{n:Int} :Ar.gg a.files n a.files.length=XK a n:=by
 rw[GK (Nat.le_refl _),List.take_length];rfl
theorem GL:∀(fs:List Ar.F) (i r:Nat),i<fs.length->r<5->(aw fs)[i*5+r]?=(fc (Nm fs i))[r]?
 |f :: fs,0,r,_,hr=>by
  rw[aw,List.getElem?_append_left (by simp;omega)];simp only[Nat.zero_mul,Nat.zero_add];rfl
 |f :: fs,i+1,r,h,hr=>by
  have ih:=GL fs i r (by simpa using h) hr;rw[aw,List.getElem?_append_right (by simp;omega)];have e:(i+1)*5+r-([.string f.name,.int .i64 f.dict,.int .i64 f.size,.int .i64 f.sum,.string f.blk]:List Value).length=i*5+r:=by simp;omega
  rw[e,ih];rfl
theorem ez.news{l:List Ar.F}(h:ez w ad l):l.length=0\/∃b,ad=some b/\∀j u,(aw l)[j]?=some u->w.cell? (b.add j)=some u:=by
 rcases h with rfl|⟨b,off,rfl,_,h⟩
 ·exact .inl rfl
 ·refine .inr ⟨_,rfl,λj u hj=>?_⟩;rw[GD]
  have hl:j<l.length*5:=by
   rcases Nat.lt_or_ge j (l.length*5) with h9|h9
   ·exact h9
   ·rw[List.getElem?_eq_none (by rw[iF];exact h9)]at hj;cases hj
  have hi:j/5<l.length:=by omega
  have e:j=j/5*5+j%5:=by omega
  have hr:j%5<5:=by omega
  obtain⟨c0,c1,c2,c3,c4⟩:=h (j/5) hi;rw[e,GL l (j/5) (j%5) hi hr]at hj;rw[e,<-Nat.add_assoc];generalize j/5=i at*;generalize j%5=r at*
  match r,hr with
  |0,_=>rw[Nat.add_zero,c0];exact hj
  |1,_=>rw[c1];exact hj
  |2,_=>rw[c2];exact hj
  |3,_=>rw[c3];exact hj
  |4,_=>rw[c4];exact hj
theorem Rf(a:Ar.A):a.files.map (bU a 0)=a.files:=by
 conv=>rhs;rw[<-List.map_id a.files]
 refine List.map_congr_left (λf _=>?_);unfold bU;rw[ab (by omega)];rfl
theorem GM(s:ByteArray)(p:Nat)(w:World)(h:cR w p s)(hs:s.size<=281474976710656) :
 Calls prog 118 #[.pointer (some ⟨p,0,none⟩)] w λe w'=>jW (Wx s) p w e w':=by
 obtain⟨i0,hi,hz0,hz1,hz2⟩:=info_parts (P:=prog) (e:=9) (z:=.string ⟨#[]⟩) (size:=1) (bytes:=16) (by kernel_rfl);obtain⟨j0,gi,ej,dX,ek⟩:=info_parts (P:=prog) (e:=73) (z:=.agg #[.string ⟨#[]⟩,.int .i64 0,.int .i64 0,.int .i64 0,.string ⟨#[]⟩]) (size:=5) (bytes:=56) (by kernel_rfl);have hpl:=h.lt;have hN:Hid (Wx s=none->∀w',On p w w'->jW (Wx s) p w (.panicked PN) w'):=λh9 w' h8=>by rw[h9];exact⟨h8,rfl⟩
 have hY:Hid (∀a,Wx s=some a->∀w' v1 v2,On p w w'->aD w.heap.size w' v1 v2 a->cR w' p ⟨#[]⟩->jW (Wx s) p w (.returned (.agg #[v1,v2])) w'):=λa h9 w' v1 v2 h8 h7 h6=>by rw[h9];exact⟨h8,v1,v2,rfl,h7,h6⟩
 generalize jW (Wx s) p w=Q at*;have XB:=Bx.new w (.slice none 0 0) (.slice none 0 0);have B1:=Zb w (.cells #[.slice none 0 0,.slice none 0 0] 35 (0,0));have hsz:(w.alloc (.cells #[.slice none 0 0,.slice none 0 0] 35 (0,0))).heap.size=w.heap.size+1:=by simp
 have S0:=cx.start (w.alloc (.cells #[.slice none 0 0,.slice none 0 0] 35 (0,0))) (w.heap.size+1) (by omega) 35;have B2:=ag B1 (Zb (w.alloc (.cells #[.slice none 0 0,.slice none 0 0] 35 (0,0))) (.cells #[.slice none 0 0,.slice none 0 0] 35 (0,0)));have GN:=XB.next (Zb (w.alloc (.cells #[.slice none 0 0,.slice none 0 0] 35 (0,0))) (.cells #[.slice none 0 0,.slice none 0 0] 35 (0,0)));rw[hsz]at S0;have G0:On p w _:=On.of B2;have R0:=h.below B2;clear h hsz B1 B2;go_enter func118,ntmps118
 go_wp2_with fail
 generalize ((w.alloc (.cells #[.slice none 0 0,.slice none 0 0] 35 (0,0))).alloc (.cells #[.slice none 0 0,.slice none 0 0] 35 (0,0)))=w0 at*
 have T0:RS w w0 p (.slice none 0 0) (.slice none 0 0) 0 0 [] [] s:=⟨S0,G0,R0,GN,hpl⟩
 clear S0 G0 GN XB;have C:=OX s ⟨#[112,114,101,115,115]⟩ p w0 R0;rw[Rc]at C;unfold Zp at C
 cases h1:oP s with
 |none =>
  rw[h1]at C;simp only[Option.map_none]at C;refine C.mono ?_;rintro e w1 ⟨G,rfl⟩;have hq:=hN.out (by simp only[Wx,h1]) _ (T0.g.past G);go_wp2_with fail
  exact⟨rfl,hq⟩
 |some r0 =>
  rw[h1]at C;simp only[Option.map_some]at C;refine C.mono ?_;rintro e w1 ⟨G,rfl,R1⟩
  have hs1:r0.size<=281474976710656:=by
   have:=congrArg List.length ((Im.zb s r0).1 h1);rw[List.length_append,<-Zf,<-Zf]at this;omega
  have T1:=T0.on G R1;clear T0 G C R0;go_wp2_with fail
  have C:=Fj r0 p 4 w1 R1 hs1;unfold Zp at C
  cases h2:WY 4 r0 with
  |none =>
   rw[h2]at C;simp only at C;refine C.mono ?_;rintro e w2 ⟨G,rfl⟩;have hq:=hN.out (by simp only[Wx,h1,h2]) _ (T1.g.past G);go_wp2_with fail
   exact⟨rfl,hq⟩
  |some x =>
   obtain⟨n,r1⟩:=x;rw[h2]at C;simp only at C;refine C.mono ?_;rintro e w2 ⟨G,rfl,R2⟩;have hs2:=nt (mE (YQ 4) h2) hs1;have hn4:=(((YQ 4) r0 n r1).1 h2).1.2;have T2:=T1.on G R2;clear T1 G C R1 R2;go_wp2_with fail
   have ee:=Za λ(h9:eG (bn 512) n r1=none)=>hN.out (by simp only[Wx,h1,h2,h9])
   go_loopw [8] (λi wr=>∃(k:Nat) (v1:Value) (ds:List ByteArray) (r:ByteArray),k<=n/\i=.int .i64 k/\Hid (eG (bn 512) k r1=some (ds,r))/\RS w wr p v1 (.slice none 0 0) k 0 (ds.map Value.string) [] r) (λi _=>n-(intOf i).toNat)
   case atStart=>exact⟨0,_,[],r1,by omega,rfl,rfl,T2⟩
   case round =>
    clear T2;obtain⟨k,v1,ds,r,hk2,rfl,HM,T3⟩:=hrel;have hs3:=nt (mE (l7 (ny 512) k) HM.out) hs2;by_cases hlt:k<n
    ·have d1:decide ((k:Int)<(n:Int))=true:=al (by omega);have d1':=al hlt;have T4:=T3.drew;have C:=Fk r p wr.drew T4.r hs3;unfold Zp at C;have c0:=T4.s.c0;have k0:=T3.s.c0
     cases h3:bn 512 r with
     |none =>
      rw[h3]at C;simp only at C;have HE:=GH (aaL HM.out h3) (show k+1<=n by omega);have hq:=Za λw' (h9:On p wr.drew w')=>ee.out HE _ (T4.g.past h9)
      go_wp2_with fail
      refine wp_region_held_drew (S:=λw'=>w'.cell? ⟨w.heap.size+1,0,none⟩=some v1) (by kernel_rfl) c0 (λhS=>?_);refine aE 0 7 (.pointer (some ⟨w.heap.size+1,0,none⟩)) rfl (λw' h9=>by go_simp) hS ?_;refine aE 1 6 v1 rfl (λw' h9=>by go_simp) hS ?_;refine aE 2 5 (.pointer (some ⟨p,0,none⟩)) rfl (λw' h9=>by go_simp) hS ?_;refine aR 3 4 rfl λK hK=>?_
      go_simp
      go_at_call 154
      refine C.mono ?_;rintro e w4 ⟨G,rfl⟩;exact⟨rfl,hq.out _ G⟩
     |some x =>
      obtain⟨X,r'⟩:=x;rw[h3]at C;simp only at C;have Rg:=Za (GI HM.out h3);have hk4:(k:Int)<=4:=by omega
      go_wp2_with fail
      go_region_law (first
       |(refine gF _ rfl _ _ 32 rfl (w.heap.size+1) 9 i0 (.string ⟨#[]⟩) 1 16 je hi hz0 hz1 hz2 rfl (by decide) v1 _ _ rfl (T5.s.o1.alloc _) ⟨w4.heap.size,0,none⟩ 1 1 [.string X] rfl rfl (cell_one_new _ _ _) (by simp[Value.oneCell']) (by decide) (by unfold maxLen;omega) (by omega) (by simp;omega) _ rfl ?_;intro g cp w5 hown5 aB bc fI;obtain⟨⟨⟨mC,qq2⟩,S6⟩,_⟩:=T5.s.gL aB hown5 bc;have T6:=T5.next S6;clear aB hown5 bc fI S6)
       |(go_simp;go_at_call 154;refine C.mono ?_;rintro e w4 ⟨G,rfl,R4⟩;have T5:=T4.on G R4;have c2:=T5.s.c0;have c3:∀o,(w4.alloc o).cell? ⟨w.heap.size+1,0,none⟩=some v1:=(λo=>(gW _ _ _ (cL w4 _ c2)).trans c2);have hb4:=T5.s.hb))
      all_goals
       clear T3 T4 T5 c2 c3 hb4 C c0 k0 mC qq2 G R4;generalize w5.setCell _ _=wq at*;go_wp2_with fail
       go_roundw
       case rel=>exact⟨k+1,_,ds++[X],r',by omega,by go_num,Rg,by rw[List.map_append];exact T6⟩
       case measure=>simp[intOf];omega
    ·obtain rfl:k=n:=by omega
     have d1:decide ((k:Int)<(k:Int))=false:=by simp
     have d1':decide (k<k)=false:=by simp
     clear ee;go_wp2_with fail
     have C:=Fj r p 12 wr T3.r hs3;unfold Zp at C;have HR:=HM.out
     cases h3:WY 12 r with
     |none =>
      rw[h3]at C;simp only at C;have hq:=Za λw' (h9:On p wr w')=>hN.out (by simp only[Wx,h1,h2,HR,h3]) _ (T3.g.past h9)
      refine C.mono ?_;rintro e w4 ⟨G,rfl⟩;go_wp2_with fail
      exact⟨rfl,hq.out _ G⟩
     |some x =>
      obtain⟨m,r2⟩:=x;rw[h3]at C;simp only at C;refine C.mono ?_;rintro e w4 ⟨G,rfl,R4⟩;have hs4:=nt (mE (YQ 12) h3) hs3;have Rh:=(((YQ 12) r m r2).1 h3).1.2;have T5:=T3.on G R4;clear T3 G C R4;go_wp2_with fail
      have kN:=Za λ(h9:eG WR m r2=none)=>hN.out (by simp only[Wx,h1,h2,HR,h3,h9])
      have GO:Hid (∀fs r4,eG WR m r2=some (fs,r4)->(r4.size=0->Wx s=some ⟨ds,fs⟩)/\(r4.size≠0->Wx s=none)):=λfs r4 h9=>⟨λh8=>by simp only[Wx,h1,h2,HR,h3,h9];exact ax h8,λh8=>by simp only[Wx,h1,h2,HR,h3,h9];exact ab h8⟩
      have hdl:=((l7 (ny 512) k r1 ds r).1 HM.out).1.1
      obtain⟨XS,HX⟩:∃XS,Hid (ds.map Value.string=XS):=⟨_,rfl⟩
      rw[HX.out]at T5;clear HR HM h1 h2 h3;go_loopw [20] (λi wr=>∃(j:Nat) (v2:Value) (fs:List Ar.F) (r:ByteArray),j<=m/\i=.int .i64 j/\Hid (eG WR j r2=some (fs,r))/\RS w wr p v1 v2 k j XS (aw fs) r) (λi _=>m-(intOf i).toNat)
      case atStart=>exact⟨0,_,[],r2,by omega,rfl,rfl,T5⟩
      case round =>
       clear T5;obtain⟨j,v2,fs,r,hj2,rfl,HF,T6⟩:=hrel;have hs5:=nt (mE (l7 aaM j) HF.out) hs4;by_cases hlt:j<m
       ·have d2:decide ((j:Int)<(m:Int))=true:=al (by omega);have eJ:=al hlt;have T7:=T6.drew;have C:=QC r p wr.drew T7.r hs5;unfold Zp at C;have c1:=T7.s.c1;have k1:=T6.s.c1
        cases h4:WR r with
        |none =>
         rw[h4]at C;simp only at C;have HE:=GH (aaL HF.out h4) (show j+1<=m by omega);have hq:=Za λw' (h9:On p wr.drew w')=>kN.out HE _ (T7.g.past h9)
         go_wp2_with fail
         refine wp_region_held_drew (S:=λw'=>w'.cell? ⟨w.heap.size+1,1,none⟩=some v2) (by kernel_rfl) c1 (λhS=>?_);refine aE 0 7 (.pointer (some ⟨w.heap.size+1,1,none⟩)) rfl (λw' h9=>by go_simp) hS ?_;refine aE 1 6 v2 rfl (λw' h9=>by go_simp) hS ?_;refine aE 2 5 (.pointer (some ⟨p,0,none⟩)) rfl (λw' h9=>by go_simp) hS ?_;refine aR 3 4 rfl λK hK=>?_
         go_simp
         go_at_call 155
         refine C.mono ?_;rintro e w5 ⟨G,rfl⟩;exact⟨rfl,hq.out _ G⟩
        |some x =>
         obtain⟨f,r'⟩:=x;rw[h4]at C;simp only[jV]at C;have Ri:=Za (GI HF.out h4);have Rj:(j:Int)<=12:=by omega
         have HS:Hid (aw (fs++[f])=aw fs++[.string f.name,.int .i64 f.dict,.int .i64 f.size,.int .i64 f.sum,.string f.blk]):=by show _=_;rw[ZE];rfl
         generalize aw fs=az at*;generalize f.name=f0 at*;generalize f.dict=f1 at*;generalize f.size=f2 at*;generalize f.sum=f3 at*;generalize f.blk=f4 at*;go_wp2_with fail
         go_region_law (first
          |(refine gF _ rfl _ _ 33 rfl (w.heap.size+1) 73 j0 (.agg #[.string ⟨#[]⟩,.int .i64 0,.int .i64 0,.int .i64 0,.string ⟨#[]⟩]) 5 56 eX gi ej dX ek rfl (by decide) v2 _ _ rfl (T8.s.o2.alloc _) ⟨w5.heap.size,0,none⟩ 1 1 [.string f0,.int .i64 f1,.int .i64 f2,.int .i64 f3,.string f4] rfl rfl (jT _ _ _ _ _ _ _) (cZ _ _ _ _ _) (by decide) (by unfold maxLen;omega) (by omega) (by simp;omega) _ rfl ?_;intro g cp w6 hown5 aB bc fI;obtain⟨⟨mC,qq2⟩,S6⟩:=T8.s.br aB hown5 bc;have T9:=T8.next S6;clear aB hown5 bc fI S6)
          |(go_simp;go_at_call 155;refine C.mono ?_;rintro e w5 ⟨G,rfl,R5⟩;have T8:=T7.on G R5;have c2:=T8.s.c1;have c3:∀o,(w5.alloc o).cell? ⟨w.heap.size+1,1,none⟩=some v2:=(λo=>(gW _ _ _ (cL w5 _ c2)).trans c2);have hb4:=T8.s.hb))
         all_goals
          clear T6 T7 T8 c2 c3 hb4 C c1 k1 mC qq2 G R5;generalize w6.setCell _ _=wq at*;go_wp2_with fail
          go_roundw
          case rel=>exact⟨j+1,_,_,r',by omega,by go_num,Ri,by rw[HS.out];exact T9⟩
          case measure=>simp[intOf];omega
       ·obtain rfl:j=m:=by omega
        have d2:decide ((j:Int)<(j:Int))=false:=by simp
        have eJ:decide (j<j)=false:=by simp
        obtain⟨HA,HB⟩:=GO.out _ _ HF.out;clear kN GO;go_wp2_with fail
        have C:=OY r p wr T6.r;unfold Zp at C;by_cases hz:r.size=0
        ·rw[show iS r=some ((),r) from ax hz]at C;simp only at C;have hA:=HA hz
         obtain rfl:r=⟨#[]⟩:=by
          apply ZN;rw[Zf]at hz;exact lZ.1 hz
         refine C.mono ?_;rintro e w5 ⟨G,rfl,R5⟩;have T7:=T6.on G R5;have hfl:=((l7 aaM j r2 fs _).1 HF.out).1.1
         have Av:aD (w.heap.size+1) w5 v1 v2 ⟨ds,fs⟩:=⟨by show World.ownsRow _ _ _ _ _ ds.length (ds.map Value.string);rw[hdl,HX.out];exact T7.s.o1,by show World.ownsRow _ _ _ _ _ fs.length (aw fs);rw[hfl];exact T7.s.o2,T7.s.ne⟩
         obtain⟨xd,qd,xf,qf,e1,e2,_⟩:=Av.slices;simp only at e1 e2;rw[hdl]at e1;rw[hfl]at e2;subst e1 e2;have y0:=T7.s.c0;have y1:=T7.s.c1;have x0:=T7.x.c0;have x1:=T7.x.c1;have z0:=T7.x.f0;have z1:=T7.x.f1;have X9:=T7.x.set (u:=.slice xd k qd) (v:=.slice xf j qf);have hq:=hY.out ⟨ds,fs⟩ hA _ _ _ ((T7.g.set1 (b:=w.heap.size) (nl _) 0 (.slice xd k qd)).set1 (b:=w.heap.size) (nl _) 1 (.slice xf j qf)) ((Av.set2 (b:=w.heap.size) (by omega) (.slice xd k qd) (.slice xf j qf)).low (by omega)) ((T7.r.low (b:=w.heap.size) (by omega) 0 (.slice xd k qd)).low (b:=w.heap.size) (by omega) 1 (.slice xf j qf));clear T6 T7 Av G R5 C HX HF;go_wp2_with fail
         clear y0 y1 x0 x1 z0 z1;have y0:=X9.c0;have y1:=X9.c1;generalize (w5.setCell _ _).setCell _ _=wz at*;exact bodyPost_ret (v:=.agg #[.slice xd k qd,.slice xf j qf]) (by simp[results,results118,go_sem,y0,y1]) rfl hq
        ·rw[show iS r=none from ab hz]at C;simp only at C;have hq:=Za λw' (h9:On p wr w')=>hN.out (HB hz) _ (T6.g.past h9)
         refine C.mono ?_;rintro e w5 ⟨G,rfl⟩;go_wp2_with fail
         exact⟨rfl,hq.out _ G⟩
theorem Rl(s:ByteArray)(p c:Nat)(w:World)(h:cR w p s)(hs:s.size<=281474976710656)(hr:Wx s=none) :
 Calls prog 117 #[.pointer (some ⟨p,0,none⟩),.pointer (some ⟨c,0,none⟩)] w λe w'=>e=.panicked PN/\On p w w':=by
 have C:=GM s p w h hs;unfold jW at C;rw[hr]at C;simp only at C;clear h hr;go_enter func117,ntmps117
 go_wp2_with fail
 refine C.mono ?_;rintro e w1 ⟨G,rfl⟩;go_wp2_with fail
 exact⟨rfl,rfl,G⟩
theorem Rm(s:ByteArray)(p c:Nat)(x y:Value)(a:Ar.A)(w:World)(h:cR w p s)(hs:s.size<=281474976710656)(hr:Wx s=some a)(hx:Bx w c x y)(hne:c≠p) :
 Calls prog 117 #[.pointer (some ⟨p,0,none⟩),.pointer (some ⟨c,0,none⟩)] w λe w'=>e=.returned (.tuple #[])/\∃v1 v2 w1,On p w w1/\w'=(w1.setCell ⟨c,0,none⟩ v1).setCell ⟨c,1,none⟩ v2/\Bx w' c v1 v2/\aD w.heap.size w' v1 v2 a/\cR w' p ⟨#[]⟩:=by
 have C:=GM s p w h hs;unfold jW at C;rw[hr]at C;simp only at C;have HX:=Za λw' (h9:On p w w')=>hx.on h9 hne
 have hcl:=hx.lt;clear h hr hx;go_enter func117,ntmps117
 go_wp2_with fail
 refine C.mono ?_;rintro e w1 ⟨G,v1,v2,rfl,O,R⟩;obtain⟨xd,qd,xf,qf,rfl,rfl,_⟩:=O.slices;have X1:=HX.out _ G;have x0:=X1.c0;have x1:=X1.c1;have f0:=X1.f0;have f1:=X1.f1;go_wp2_with fail
 go_end0
 exact⟨rfl,_,_,w1,G,rfl,X1.set,O.set2 hcl _ _,(R.low (by omega) 0 _).low (by omega) 1 _⟩
theorem Rn(s:ByteArray)(c:Nat)(u:World)(hs:s.size<=281474976710656)(hr:Wx s=none) :
 CB 116 #[.string s,.func (.func 117) #[] #[.pointer (some ⟨c,0,none⟩)]] u (.tuple #[.int .i64 0,.bool false]):=by
 obtain⟨R,K0,K1,G,hz⟩:=FW s u;refine(Qp _ s u (λw0=>On (u.heap.size+2) (W3 s u) w0) ((Rl s (u.heap.size+2) c (W3 s u) R hs hr).mono ?_)).mono ?_
 ·rintro e w' ⟨rfl,G1⟩;exact⟨rfl,⟨_,K0.on G1 (by omega)⟩,⟨_,K1.on G1 (by omega)⟩,G1⟩
 ·rintro e w' ⟨rfl,w0,G1,rfl⟩;exact⟨rfl,((G.trans (G1.under (by omega) (by omega))).setCell (p:=⟨u.heap.size,0,none⟩) (nl _) _).setCell (p:=⟨u.heap.size+1,0,none⟩) (by simp) _⟩
theorem Ro(s:ByteArray)(c:Nat)(x y:Value)(a:Ar.A)(u:World)(hs:s.size<=281474976710656)(hr:Wx s=some a)(hx:Bx u c x y) :
 Calls prog 116 #[.string s,.func (.func 117) #[] #[.pointer (some ⟨c,0,none⟩)]] u λe w'=>e=.returned (.tuple #[.int .i64 (s.size:Nat),.bool true])/\∃v1 v2,aD u.heap.size w' v1 v2 a/\Bx w' c v1 v2/\On c u w':=by
 obtain⟨R,K0,K1,G,hz⟩:=FW s u;have hcl:=hx.lt;refine(Qq _ s ⟨#[]⟩ u (λw0=>∃v1 v2 w1,On (u.heap.size+2) (W3 s u) w1/\w0=(w1.setCell ⟨c,0,none⟩ v1).setCell ⟨c,1,none⟩ v2/\Bx w0 c v1 v2/\aD (u.heap.size+3) w0 v1 v2 a) hs (show 0<=s.size from Nat.zero_le _) ((Rm s (u.heap.size+2) c x y a (W3 s u) R hs hr (hx.next G) (by omega)).mono ?_)).mono ?_
 ·rintro e w' ⟨rfl,v1,v2,w1,G1,rfl,X,O,R'⟩;rw[hz]at O;exact⟨rfl,R',⟨_,((K0.on G1 (by omega)).other (by omega) 0 _).other (by omega) 1 _⟩,⟨_,((K1.on G1 (by omega)).other (by omega) 0 _).other (by omega) 1 _⟩,v1,v2,w1,G1,rfl,X,O⟩
 ·rintro e w' ⟨rfl,w0,⟨v1,v2,w1,G1,rfl,X,O⟩,rfl⟩;refine⟨by rw[show((⟨#[]⟩:ByteArray).size:Int)=0 from rfl,Int.sub_zero],v1,v2,((O.gL (b:=u.heap.size) (by omega) 0 _).gL (b:=u.heap.size+1) (by omega) 0 _).low (by omega),(X.other (c:=u.heap.size) (by omega) 0 _).other (c:=u.heap.size+1) (by omega) 0 _,?_⟩;have G2:=G.trans (G1.under (lo:=u.heap.size) (by omega) (by omega));refine⟨G2.os,G2.tape,G2.output,?_,λk hk hne=>?_⟩
  ·have:=G2.size;simpa[World.setCell]using this
  ·have hkc:k≠c:=λe=>hne (by rw[e])
   rw[Below.heap_setCell _ _ _ _ (by simp;omega),Below.heap_setCell _ _ _ _ (by simp;omega),Below.heap_setCell _ _ _ _ (by simpa using hkc),Below.heap_setCell _ _ _ _ (by simpa using hkc)];exact G2.block k hk
theorem oO.sane(h:aaH a):ao a:=by
 refine⟨by have:=h.nd;omega,by have:=h.nf;omega,λi=>?_,λi=>?_,λi=>?_⟩
 ·by_cases hi:i<a.aa.length
  ·rw[show VA a.aa i=a.aa[i] by simp[VA,hi]];have:=h.ds _ (gM hi);omega
  ·rw[show VA a.aa i=⟨#[]⟩ by simp[VA,hi]];exact Nat.zero_le _
 ·by_cases hi:i<a.files.length
  ·rw[show Nm a.files i=a.files[i] by simp[Nm,hi]];have:=(h.fs _ (gM hi)).1;omega
  ·rw[show Nm a.files i=Ar.fz by simp[Nm,hi]];exact Nat.zero_le _
 ·by_cases hi:i<a.files.length
  ·rw[show Nm a.files i=a.files[i] by simp[Nm,hi]];have:=(h.fs _ (gM hi)).2.2.2.2;omega
  ·rw[show Nm a.files i=Ar.fz by simp[Nm,hi]];exact Nat.zero_le _
theorem Rp(s:ByteArray)(w:World)(hs:s.size<=281474976710656) :
 Calls prog 76 #[.string s] w λe w'=>ah w (fK s) (Xl s) e w':=by
 have XB:=Bx.new w (.slice none 0 0) (.slice none 0 0);have B1:=Zb w (.cells #[.slice none 0 0,.slice none 0 0] 35 (0,0));by_cases hbig:16384<s.size
 ·have e1:fK s=VC:=ax hbig;have e2:Xl s=2:=ax hbig;rw[e1,e2];have d1:decide ((16384:Int)<(s.size:Int))=true:=al (by omega);clear XB;go_enter func76,ntmps76
  go_wp2_with fail
  exact bodyPost_ret (v:=.tuple #[.agg #[.slice none 0 0,.slice none 0 0],.int .i64 2]) (by simp[results,results76,go_sem]) rfl (ZC B1)
 ·have d1:decide ((16384:Int)<(s.size:Int))=false:=dF (by omega);have XA:=Bx.new (w.alloc (.cells #[.slice none 0 0,.slice none 0 0] 35 (0,0))) (.slice none 0 0) (.slice none 0 0);have GA:=Zb (w.alloc (.cells #[.slice none 0 0,.slice none 0 0] 35 (0,0))) (.cells #[.slice none 0 0,.slice none 0 0] 35 (0,0));have qC:=XB.next GA;have B2:=ag B1 GA;rw[show(w.alloc (.cells #[.slice none 0 0,.slice none 0 0] 35 (0,0))).heap.size=w.heap.size+1 by simp]at XA;clear XB B1 GA
  cases hr:Wx s with
  |none =>
   have ho:XM s=none:=by unfold XM;rw[hr]
   have e1:fK s=VC:=by unfold fK;rw[ab hbig,ho]
   have e2:Xl s=1:=by unfold Xl;rw[ab hbig,ho]
   rw[e1,e2];have C:=Rn s (w.heap.size+1) ((w.alloc (.cells #[.slice none 0 0,.slice none 0 0] 35 (0,0))).alloc (.cells #[.slice none 0 0,.slice none 0 0] 35 (0,0))) hs hr;clear hr ho;go_enter func76,ntmps76
   go_wp2_with fail
   generalize ((w.alloc (.cells #[.slice none 0 0,.slice none 0 0] 35 (0,0))).alloc (.cells #[.slice none 0 0,.slice none 0 0] 35 (0,0)))=w2 at*;refine mo C λw3 G=>?_
   have X3:=qC.next G;have B3:=ag B2 G;clear qC XA B2 G C;have X5:=X3.set (u:=.slice none 0 0) (v:=.slice none 0 0);have B5:=tg B3 (b:=w.heap.size) (nl _) (.slice none 0 0) (.slice none 0 0);have x0:=X3.c0;have x1:=X3.c1;have f0:=X3.f0;have f1:=X3.f1;go_wp2_with fail
   clear x0 x1 f0 f1;have x0:=X5.c0;have x1:=X5.c1;generalize (w3.setCell _ _).setCell _ _=wz at*;exact bodyPost_ret (v:=.tuple #[.agg #[.slice none 0 0,.slice none 0 0],.int .i64 1]) (by simp[results,results76,go_sem,x0,x1]) rfl (ZC B5)
  |some a =>
   have hok:=((aab s a).1 hr).1;have hsa:=oO.sane hok;have C:=Ro s (w.heap.size+1) _ _ a _ hs hr XA;have hnd:=hok.nd;have hnf:=hok.nf;by_cases hk:Vz a=0
   ·have ho:XM s=some a:=by unfold XM;rw[hr];exact ax hk
    have e1:fK s=a:=by unfold fK;rw[ab hbig,ho]
    have e2:Xl s=0:=by unfold Xl;rw[ab hbig,ho]
    rw[e1,e2];clear hr ho hok e1 e2;go_enter func76,ntmps76
    go_wp2_with fail
    generalize ((w.alloc (.cells #[.slice none 0 0,.slice none 0 0] 35 (0,0))).alloc (.cells #[.slice none 0 0,.slice none 0 0] 35 (0,0)))=w2 at*;refine mo C ?_;rintro w3 ⟨v1,v2,O,iG,G⟩;have vX:=qC.on G (by omega);have hw2:=XA.lt;have B3:=B2.trans (G.under (lo:=w.heap.size) (by omega) (by omega));obtain⟨xd,qd,xf,qf,rfl,rfl,hv⟩:=O.slices;have CK:=Zm xd xf qd qf a w3 hv hsa;rw[hk]at CK;unfold av at CK;have HO:=Za λw' (h9:ae w3 w')=>O.next h9
    generalize a.aa.length=D at*;generalize a.files.length=N at*;have k0:=iG.c0;have k1:=iG.c1;clear C O qC XA;go_wp2_with fail
    refine mo CK λw4 G4=>?_
    have vY:=iG.next G4;have bN:=vX.next G4;have B4:=ag B3 G4
    have O4:=(HO.out _ G4)
    clear k0 k1 CK HO;have k0:=vY.c0;have k1:=vY.c1;have x0:=bN.c0;have x1:=bN.c1;have f0:=bN.f0;have f1:=bN.f1;have X5:=bN.set (u:=.slice xd D qd) (v:=.slice xf N qf);have B5:=tg B4 (b:=w.heap.size) (nl _) (.slice xd D qd) (.slice xf N qf);have O5:=(O4.set2 (b:=w.heap.size) (by omega) (.slice xd D qd) (.slice xf N qf)).low (lo':=w.heap.size) (by omega)
    have hfin:ah w a 0 (.returned (.tuple #[.agg #[.slice xd D qd,.slice xf N qf],.int .i64 0])) _:=⟨_,_,rfl,O5,B5⟩
    clear O4 O5 B4 B5 vY iG vX B3;go_wp2_with fail
    clear k0 k1 x0 x1 f0 f1;have x0:=X5.c0;have x1:=X5.c1;generalize (w4.setCell _ _).setCell _ _=wz at*;exact bodyPost_ret (v:=.tuple #[.agg #[.slice xd D qd,.slice xf N qf],.int .i64 0]) (by simp[results,results76,go_sem,x0,x1]) rfl hfin
   ·have ho:XM s=none:=by unfold XM;rw[hr];exact ab hk
    have e1:fK s=VC:=by unfold fK;rw[ab hbig,ho]
    have e2:Xl s=1:=by unfold Xl;rw[ab hbig,ho]
    rw[e1,e2];have dk:(Vz a==0)=false:=by simpa using hk
    clear hr ho hok e1 e2;go_enter func76,ntmps76
    go_wp2_with fail
    generalize ((w.alloc (.cells #[.slice none 0 0,.slice none 0 0] 35 (0,0))).alloc (.cells #[.slice none 0 0,.slice none 0 0] 35 (0,0)))=w2 at*;refine mo C ?_;rintro w3 ⟨v1,v2,O,iG,G⟩;have vX:=qC.on G (by omega);have hw2:=XA.lt;have B3:=B2.trans (G.under (lo:=w.heap.size) (by omega) (by omega));obtain⟨xd,qd,xf,qf,rfl,rfl,hv⟩:=O.slices;have CK:=Zm xd xf qd qf a w3 hv hsa;unfold av at CK;generalize Vz a=ck at*;have HO:=Za λw' (h9:ae w3 w')=>O.next h9
    generalize a.aa.length=D at*;generalize a.files.length=N at*;have k0:=iG.c0;have k1:=iG.c1;clear C O qC XA;go_wp2_with fail
    refine mo CK λw4 G4=>?_
    have vY:=iG.next G4;have bN:=vX.next G4;have B4:=ag B3 G4
    have O4:=(HO.out _ G4)
    clear k0 k1 CK HO;have X5:=bN.set (u:=.slice none 0 0) (v:=.slice none 0 0);have B5:=tg B4 (b:=w.heap.size) (nl _) (.slice none 0 0) (.slice none 0 0);have x0:=bN.c0;have x1:=bN.c1;have f0:=bN.f0;have f1:=bN.f1;go_wp2_with fail
    clear x0 x1 f0 f1;have x0:=X5.c0;have x1:=X5.c1;generalize (w4.setCell _ _).setCell _ _=wz at*;exact bodyPost_ret (v:=.tuple #[.agg #[.slice none 0 0,.slice none 0 0],.int .i64 1]) (by simp[results,results76,go_sem,x0,x1]) rfl (ZC B5)
namespace Dk
theorem fo{b:Ar.A}(h:XO e):(fM a b e).2.length<=22:=by
 unfold fM;by_cases he:e=0
 ·rw[ax he];show 2<=22;omega
 ·rw[ab he];exact fk h
theorem gT{t:List UInt8}(h:XO e)(hm:22<=m)(ht:e=0->t.length<=m):(Yk a t e).2.length<=m:=by
 unfold Yk;by_cases he:e=0
 ·rw[ax he];exact ht he
 ·rw[ab he];exact nt (fk h) hm
theorem aaU(h:Vz a=0)(n t:ByteArray)(d:Int):XO (aO a n t d):=by
 unfold aO XO;rw[ab (by simp[h])];split
 ·omega
 ·split
  ·omega
  ·split<;>omega
theorem dW(h:Vz a=0)(n:ByteArray):XO (VE a n):=by
 unfold VE XO;rw[ab (by simp[h])];split<;>omega
theorem aaV(h:Vz a=0)(n:Int):XO (V6 a n):=by
 unfold V6 XO;rw[ab (by simp[h])];split
 ·split<;>omega
 ·omega
theorem aaW(h:Vz a=0)(n:ByteArray)(i k:Int):XO (WO a n i k):=by
 unfold WO;by_cases hg:VE a n≠0
 ·rw[ax hg];exact dW h n
 ·rw[ab hg];unfold XO;split<;>omega
theorem aaX(h:Vz a=0):XO (aV a):=by
 unfold aV XO;rw[ab (by simp[h])];split<;>omega
theorem aae:XO 0:=by unfold XO;omega
theorem XX:XO 1:=by unfold XO;omega
theorem fS(h:Vz a=0){f:Ar.F}(hf:f∈a.files):(dJ f).length<=46:=by
 obtain⟨i,hi,rfl⟩:=List.getElem_of_mem hf;have h1:=aac h hi;rw[show Nm a.files i=a.files[i] by simp[Nm,hi]]at h1;obtain⟨⟨_,_,⟨_,h2⟩,_⟩,h3,h4⟩:=h1;have d1:=XW (n:=(a.files[i]).size.toNat) (by omega);have d2:=XW (n:=(a.files[i]).blk.size) (by omega);rw[Zf]at h3;unfold dJ;simp only[List.length_append,List.length_singleton];omega
theorem fp:∀(fs:List Ar.F),(∀f∈fs,(dJ f).length<=46)->(lst fs).length<=fs.length*47
 |[],_=>by simp[lst,List.intercalate]
 |[f],h=>by have:=h f (by simp);simp[lst,List.intercalate];omega
 |f :: g :: t,h=>by
  have h1:=fp (g :: t) (λx hx=>h x (List.mem_cons_of_mem _ hx));have h2:=h f (by simp);simp only[lst,List.intercalate,List.map_cons,List.intersperse,List.flatten_cons,List.length_append,List.length_cons,List.length_nil]at h1 |-
  omega
theorem lg(h:Vz a=0):(bP a).length<=600:=by
 have hl:=fp a.files (λf hf=>fS h hf);have hm:=(Zj.1 (VV.1 h).1).2.1;rw[iw];split
 ·decide
 ·omega
theorem Wy(h:Vz a=0):ao a:=oO.sane (YO h).1
theorem aaT(h:Vz a=0):Wg a<10000000000000000:=by
 have hs:=Wy h;obtain⟨m1,m2,_⟩:=Zj.1 (VV.1 h).1;have h1:=vC hs.ds a.aa.length;have h2:=Z3 hs.bk a.files.length;have h3:a.aa.length*140737488355328<=4*140737488355328:=Nat.mul_le_mul_right _ m1;have h4:a.files.length*140737488355328<=12*140737488355328:=Nat.mul_le_mul_right _ m2;unfold Wg;rw[ax h];unfold Ar.sz;omega
theorem aaS :(VT a).size<=16384:=by
 unfold VT;by_cases h:aV a=0
 ·rw[ax h];unfold aV at h;by_cases hc:Vz a≠0
  ·rw[ax hc]at h;exact absurd h hc
  ·rw[ab hc]at h;by_cases hb:16384<(WU a).size
   ·rw[ax hb]at h;cases h
   ·omega
 ·rw[ab h];show 0<=_;omega
theorem fU(h:Vz a=0)(line:List UInt8):(Wb a line).2.length<=600:=by
 unfold Wb;split
 ·exact nt (fk XX) (by decide)
 ·exact nt (fo (aaU h _ _ _)) (by decide)
 ·exact nt (fo (dW h _)) (by decide)
 ·exact nt (fo (aaV h _)) (by decide)
 ·exact nt (fo (by rw[h];exact aae)) (by decide)
 ·refine gT (dW h _) (by decide) (λh9=>?_);have:=Au h9;rw[Zf]at this;omega
 ·refine gT (aaW h _ _ _) (by decide) (λh9=>?_)
  rename_i n i k _
  have hg:VE a (ba n)=0:=by
   by_cases hg:VE a (ba n)=0
   ·exact hg
   ·unfold WO at h9;rw[ax hg]at h9;exact h9
  have:=Au hg
  have h8:(W7 a (ba n) i k).size<=(bD a (ba n)).size:=by
   unfold W7;rw[ax h9];simp;omega
  rw[Zf]at h8;omega
 ·exact lg h
 ·exact gT (by rw[h];exact aae) (by decide) (λ_=>nt (XW (aaT h)) (by decide))
 ·by_cases hs:aV a=0
  ·obtain⟨h1,h2⟩:=aaR hs;rw[ax hs,ax h1];exact nt (XW (by have:=aaS (a:=a);omega)) (by decide)
  ·rw[ab hs];exact nt (fk (aaX h)) (by decide)
end Dk
end Go.Proofs.YtbjbjbpgmojcbacGreatDoor
