/- A part of the proof: what it leans on. -/
import Derived.Test.YtbjbjbpgmojcbacGreatLk29
set_option maxRecDepth 4000
set_option maxHeartbeats 2000000
namespace Go.Proofs.YtbjbjbpgmojcbacGreat
open Go.RowKit
set_option linter.unusedVariables false
theorem ZhX (dict b S:ByteArray) (w:World) (hd:dict.size<=256) (hb:b.size<=140737488355328) (h0:0<b.size) (hS:b.extract 1 b.size=S) (hx:(b[0].toNat:Int)=2) (Z:ByteArray) (hZ:S.extract 8 S.size=Z) (h8:¬ S.size<8) (hn:Nm.Zm Z.data.toList=none) :
 Calls Tryz.prog 70 #[.string dict,.string b] w fun e w'=>e=.returned (.tuple #[.string ⟨#[]⟩,.bool false])/\Below w.heap.size w w':=by
 have hne:=ZY (b:=b) (by omega);have hb1:(1:Int)<=(b.size:Int):=by omega
 have hb1n:1<=b.size:=by omega
 have hb0:(0:Int)<(b.size:Int):=by omega
 have hbi:(b.size:Int)<=140737488355328:=by omega
 have hs1:=Zp b 1 b.size;rw [hS] at hs1;have hs2:S.size<=140737488355328:=by omega
 have hz1:=Zp S 8 S.size;rw [hZ] at hz1;have hz2:Z.size<=140737488355328:=by omega
 clear hs1 hz1;have h8':(8:Int)<=(S.size:Int):=by omega
 have h8n:8<=S.size:=by omega
 have h8d:decide ((S.size:Int)<8)=false:=by simp;omega
 have h8s:(S.size:Int)<=140737488355328:=by omega
 have c1:=fun w=>ZcV Z w (by omega) hn
 have c2:=fun w=>ZaV (Bk.pt (S.extract 0 8)) ⟨#[]⟩ 0 w
 generalize (Cd.rd (Bk.pt (S.extract 0 8)) ⟨#[]⟩ 0).1=X1 at *;generalize (Cd.rd (Bk.pt (S.extract 0 8)) ⟨#[]⟩ 0).2=X2 at *;clear hn;have HX:Hid (∀ i,Bk.ptK S 8 i=Bk.pt (S.extract 0 8) i):=ZjF S;generalize Bk.pt (S.extract 0 8)=f at *;have hif:=Zb f;have R3:=RowAt.new w (fun _=>0);have HB:Below w.heap.size w (w.alloc (.cells (arr fun _=>0) 127)):=(bR _ _).alloc (nl _) _;rw [<-Zk] at R3 HB;go_enter Tryz.func70,Tryz.ntmps70
 go_wp2_with fail
 go_region
 go_wp2_with fail
 rw [Zk] at R3 HB;rw [Zk];generalize w.alloc (.cells (arr fun _=>0) 127)=w0 at *
 obtain ⟨g3,hg3⟩:∃ g3,w.heap.size=g3:=⟨_,rfl⟩
 have hq:Hid (w.heap.size<=g3):=Nat.le_of_eq hg3;have hg3':w.heap.size=g3:=hg3;have R3':RowAt w0 g3 (Bk.ptK S 0):=by rw [<-hg3];exact R3.congr (fun i _=>by simp [Bk.ptK])
 clear R3;rw [hg3'];clear hg3;go_loopw [9] (fun i wr=>∃ k:Nat,k<=8/\i=.int .i64 k/\RowAt wr g3 (Bk.ptK S k)/\Below w.heap.size w wr) (fun i _=>8 - (intOf i).toNat)
 case atStart=>exact ⟨0,by omega,rfl,R3',HB.drew⟩
 case round =>
  clear R3' HB;obtain ⟨k,hk,rfl,R3,HB⟩:=hrel;by_cases hlt:k<8
  ·have hk1:decide ((k:Int)<8)=true:=by simp;omega
   have hk2:decide (k<8)=true:=by simp;omega
   have hks:k<S.size:=by omega
   have hk3:(k:Int)<(S.size:Int):=by omega
   obtain ⟨x,hxx⟩:∃ x:Int,(S[k].toNat:Int)=x:=⟨_,rfl⟩
   have hA:Cd.at8 S k=S[k].toNat:=by unfold Cd.at8;rw [Nm.ZL S k hks];rfl
   have hA2:=Cd.ZaC S k;have hx0:0<=x:=by omega
   have hx1:x<=255:=by omega
   obtain ⟨H,hH⟩:∃ H,Cd.at8 S k / 16=H:=⟨_,rfl⟩
   obtain ⟨L,hL⟩:∃ L,Cd.at8 S k % 16=L:=⟨_,rfl⟩
   have e1:x / 16=(H:Int):=by omega
   have e2:x % 16=(L:Int):=by omega
   have e3:x.tdiv 16=(H:Int):=by rw [Int.tdiv_eq_ediv_of_nonneg hx0];exact e1
   have e4:x.tmod 16=(L:Int):=by rw [Int.tmod_eq_emod_of_nonneg hx0];exact e2
   have hH2:H<16:=by omega
   have hL2:L<16:=by omega
   have u1:IntKind.u8.wrap (H:Int)=(H:Int):=IntWalk.u8_in _ ⟨by omega,by omega⟩;have u2:IntKind.i64.wrap (H:Int)=(H:Int):=IntWalk.i64_in _ ⟨by omega,by omega⟩;have u3:IntKind.u8.wrap (L:Int)=(L:Int):=IntWalk.u8_in _ ⟨by omega,by omega⟩;have u4:IntKind.i64.wrap (L:Int)=(L:Int):=IntWalk.i64_in _ ⟨by omega,by omega⟩
   obtain ⟨K2,hK2e⟩:∃ K2,2*k=K2:=⟨_,rfl⟩
   obtain ⟨K3,hK3e⟩:∃ K3,2*k+1=K3:=⟨_,rfl⟩
   have hK2:K2<16:=by omega
   have hK3:K3<16:=by omega
   have m2:2*(k:Int)=(K2:Int):=by omega
   have m3:(K2:Int)+1=(K3:Int):=by omega
   have hK2i:(K2:Int)<16:=by omega
   have hK3i:(K3:Int)<16:=by omega
   have w4:IntKind.i64.wrap (K2:Int)=(K2:Int):=IntWalk.i64_in _ ⟨by omega,by omega⟩;have w5:IntKind.i64.wrap (K3:Int)=(K3:Int):=IntWalk.i64_in _ ⟨by omega,by omega⟩;have c1:=R3.cell K2 hK2;have f1:=R3.frozen K2;have c2:=R3.cell K3 hK3;have f2:=R3.frozen K3;have S3:=R3.set K2 (H:Int);have SB:=HB.setCell (p:=⟨g3,K2,none⟩) (by have:=hq.out;show _<=g3;omega) (.int .i64 (H:Int));have T3:=(S3.set K3 (L:Int)).congr (f':=Bk.ptK S (k+1)) (fun i _=>by rw [<-hK2e,<-hK3e,<-hH,<-hL];exact Bk.ZcG S k i);have TB:=SB.setCell (p:=⟨g3,K3,none⟩) (by have:=hq.out;show _<=g3;omega) (.int .i64 (L:Int));clear hA hA2 hH hL e1 e2 hK2e hK3e R3 HB S3 SB;go_wp2_with fail
   go_region
   all_goals go_wp2_with fail
   all_goals go_roundw
   case rel=>exact ⟨k+1,by omega,by go_num,T3,TB.drew⟩
   case measure=>simp [intOf];omega
  ·obtain rfl:k=8:=by omega
   have hk1:decide ((8:Int)<8)=false:=by decide
   have R4:=R3.congr (f':=f) (fun i _=>HX.out i);clear R3 HX hx;go_wp2_with fail
   refine (c1 _).mono ?_;rintro e w1 ⟨rfl,G1⟩;have R5:=R4.below G1;have B5:=bch HB G1 (nl _);clear R4 HB G1 c1;go_wp2_with (refine wpList_load_row rfl 127 _ rfl g3 rfl 127 (arr f) (0,0) _ R5.2 U127 rfl hif ?_)
   refine (c2 _).mono ?_;rintro e w2 ⟨rfl,G2⟩;have B6:=bch B5 G2 (nl _);go_wp2_with fail
   go_ret2
   exact ⟨rfl,B6⟩
theorem ZhO (dict b S:ByteArray) (w:World) (hd:dict.size<=256) (hb:b.size<=140737488355328) (h0:0<b.size) (hS:b.extract 1 b.size=S) (hx:(b[0].toNat:Int)=2) (Z:ByteArray) (hZ:S.extract 8 S.size=Z) (h8:¬ S.size<8) (n k:Nat) (Y:ByteArray) (hn:Nm.Zm Z.data.toList=some (n,k)) (hY:Z.extract k Z.size=Y) (hE:(Cd.rd (Bk.pt (S.extract 0 8)) Y (n:Nat)).2 ≠ 0) :
 Calls Tryz.prog 70 #[.string dict,.string b] w fun e w'=>e=.returned (.tuple #[.string ⟨#[]⟩,.bool false])/\Below w.heap.size w w':=by
 have hne:=ZY (b:=b) (by omega);have hb1:(1:Int)<=(b.size:Int):=by omega
 have hb1n:1<=b.size:=by omega
 have hb0:(0:Int)<(b.size:Int):=by omega
 have hbi:(b.size:Int)<=140737488355328:=by omega
 have hs1:=Zp b 1 b.size;rw [hS] at hs1;have hs2:S.size<=140737488355328:=by omega
 have hz1:=Zp S 8 S.size;rw [hZ] at hz1;have hz2:Z.size<=140737488355328:=by omega
 clear hs1 hz1;have h8':(8:Int)<=(S.size:Int):=by omega
 have h8n:8<=S.size:=by omega
 have h8d:decide ((S.size:Int)<8)=false:=by simp;omega
 have h8s:(S.size:Int)<=140737488355328:=by omega
 have c1:=fun w=>ZaT Z w n k (by omega) hn
 rw [hY] at c1;have c2:=fun w=>ZaV (Bk.pt (S.extract 0 8)) Y (n:Nat) w
 generalize (Cd.rd (Bk.pt (S.extract 0 8)) Y (n:Nat)).1=X1 at *;generalize (Cd.rd (Bk.pt (S.extract 0 8)) Y (n:Nat)).2=X2 at *;have q1:(X2 == 0)=false:=by simp [hE]
 have q2:(X2 != 0)=true:=by simp [hE]
 clear hn hY;have HX:Hid (∀ i,Bk.ptK S 8 i=Bk.pt (S.extract 0 8) i):=ZjF S;generalize Bk.pt (S.extract 0 8)=f at *;have hif:=Zb f;have R3:=RowAt.new w (fun _=>0);have HB:Below w.heap.size w (w.alloc (.cells (arr fun _=>0) 127)):=(bR _ _).alloc (nl _) _;rw [<-Zk] at R3 HB;go_enter Tryz.func70,Tryz.ntmps70
 go_wp2_with fail
 go_region
 go_wp2_with fail
 rw [Zk] at R3 HB;rw [Zk];generalize w.alloc (.cells (arr fun _=>0) 127)=w0 at *
 obtain ⟨g3,hg3⟩:∃ g3,w.heap.size=g3:=⟨_,rfl⟩
 have hq:Hid (w.heap.size<=g3):=Nat.le_of_eq hg3;have hg3':w.heap.size=g3:=hg3;have R3':RowAt w0 g3 (Bk.ptK S 0):=by rw [<-hg3];exact R3.congr (fun i _=>by simp [Bk.ptK])
 clear R3;rw [hg3'];clear hg3;go_loopw [9] (fun i wr=>∃ k:Nat,k<=8/\i=.int .i64 k/\RowAt wr g3 (Bk.ptK S k)/\Below w.heap.size w wr) (fun i _=>8 - (intOf i).toNat)
 case atStart=>exact ⟨0,by omega,rfl,R3',HB.drew⟩
 case round =>
  clear R3' HB;obtain ⟨k,hk,rfl,R3,HB⟩:=hrel;by_cases hlt:k<8
  ·have hk1:decide ((k:Int)<8)=true:=by simp;omega
   have hk2:decide (k<8)=true:=by simp;omega
   have hks:k<S.size:=by omega
   have hk3:(k:Int)<(S.size:Int):=by omega
   obtain ⟨x,hxx⟩:∃ x:Int,(S[k].toNat:Int)=x:=⟨_,rfl⟩
   have hA:Cd.at8 S k=S[k].toNat:=by unfold Cd.at8;rw [Nm.ZL S k hks];rfl
   have hA2:=Cd.ZaC S k;have hx0:0<=x:=by omega
   have hx1:x<=255:=by omega
   obtain ⟨H,hH⟩:∃ H,Cd.at8 S k / 16=H:=⟨_,rfl⟩
   obtain ⟨L,hL⟩:∃ L,Cd.at8 S k % 16=L:=⟨_,rfl⟩
   have e1:x / 16=(H:Int):=by omega
   have e2:x % 16=(L:Int):=by omega
   have e3:x.tdiv 16=(H:Int):=by rw [Int.tdiv_eq_ediv_of_nonneg hx0];exact e1
   have e4:x.tmod 16=(L:Int):=by rw [Int.tmod_eq_emod_of_nonneg hx0];exact e2
   have hH2:H<16:=by omega
   have hL2:L<16:=by omega
   have u1:IntKind.u8.wrap (H:Int)=(H:Int):=IntWalk.u8_in _ ⟨by omega,by omega⟩;have u2:IntKind.i64.wrap (H:Int)=(H:Int):=IntWalk.i64_in _ ⟨by omega,by omega⟩;have u3:IntKind.u8.wrap (L:Int)=(L:Int):=IntWalk.u8_in _ ⟨by omega,by omega⟩;have u4:IntKind.i64.wrap (L:Int)=(L:Int):=IntWalk.i64_in _ ⟨by omega,by omega⟩
   obtain ⟨K2,hK2e⟩:∃ K2,2*k=K2:=⟨_,rfl⟩
   obtain ⟨K3,hK3e⟩:∃ K3,2*k+1=K3:=⟨_,rfl⟩
   have hK2:K2<16:=by omega
   have hK3:K3<16:=by omega
   have m2:2*(k:Int)=(K2:Int):=by omega
   have m3:(K2:Int)+1=(K3:Int):=by omega
   have hK2i:(K2:Int)<16:=by omega
   have hK3i:(K3:Int)<16:=by omega
   have w4:IntKind.i64.wrap (K2:Int)=(K2:Int):=IntWalk.i64_in _ ⟨by omega,by omega⟩;have w5:IntKind.i64.wrap (K3:Int)=(K3:Int):=IntWalk.i64_in _ ⟨by omega,by omega⟩;have c1:=R3.cell K2 hK2;have f1:=R3.frozen K2;have c2:=R3.cell K3 hK3;have f2:=R3.frozen K3;have S3:=R3.set K2 (H:Int);have SB:=HB.setCell (p:=⟨g3,K2,none⟩) (by have:=hq.out;show _<=g3;omega) (.int .i64 (H:Int));have T3:=(S3.set K3 (L:Int)).congr (f':=Bk.ptK S (k+1)) (fun i _=>by rw [<-hK2e,<-hK3e,<-hH,<-hL];exact Bk.ZcG S k i);have TB:=SB.setCell (p:=⟨g3,K3,none⟩) (by have:=hq.out;show _<=g3;omega) (.int .i64 (L:Int));clear hA hA2 hH hL e1 e2 hK2e hK3e R3 HB S3 SB;go_wp2_with fail
   go_region
   all_goals go_wp2_with fail
   all_goals go_roundw
   case rel=>exact ⟨k+1,by omega,by go_num,T3,TB.drew⟩
   case measure=>simp [intOf];omega
  ·obtain rfl:k=8:=by omega
   have hk1:decide ((8:Int)<8)=false:=by decide
   have R4:=R3.congr (f':=f) (fun i _=>HX.out i);clear R3 HX hx;go_wp2_with fail
   refine (c1 _).mono ?_;rintro e w1 ⟨rfl,G1⟩;have R5:=R4.below G1;have B5:=bch HB G1 (nl _);clear R4 HB G1 c1;go_wp2_with (refine wpList_load_row rfl 127 _ rfl g3 rfl 127 (arr f) (0,0) _ R5.2 U127 rfl hif ?_)
   refine (c2 _).mono ?_;rintro e w2 ⟨rfl,G2⟩;have B6:=bch B5 G2 (nl _);clear R5 B5 G2 c2;go_wp2_with fail
   go_ret2
   exact ⟨rfl,B6⟩
theorem Zhg (dict b S:ByteArray) (w:World) (hd:dict.size<=256) (hb:b.size<=140737488355328) (h0:0<b.size) (hS:b.extract 1 b.size=S) (hx:(b[0].toNat:Int)=2) (Z:ByteArray) (hZ:S.extract 8 S.size=Z) (h8:¬ S.size<8) (n k:Nat) (Y:ByteArray) (hn:Nm.Zm Z.data.toList=some (n,k)) (hY:Z.extract k Z.size=Y) (X1:ByteArray) (hE:Cd.rd (Bk.pt (S.extract 0 8)) Y (n:Nat)=(X1,0)) (hX:X1.size<=140737488355328) (hm:Zz dict X1=none) :
 Calls Tryz.prog 70 #[.string dict,.string b] w fun e w'=>e=.returned (.tuple #[.string ⟨#[]⟩,.bool false])/\Below w.heap.size w w':=by
 have hne:=ZY (b:=b) (by omega);have hb1:(1:Int)<=(b.size:Int):=by omega
 have hb1n:1<=b.size:=by omega
 have hb0:(0:Int)<(b.size:Int):=by omega
 have hbi:(b.size:Int)<=140737488355328:=by omega
 have hs1:=Zp b 1 b.size;rw [hS] at hs1;have hs2:S.size<=140737488355328:=by omega
 have hz1:=Zp S 8 S.size;rw [hZ] at hz1;have hz2:Z.size<=140737488355328:=by omega
 clear hs1 hz1;have h8':(8:Int)<=(S.size:Int):=by omega
 have h8n:8<=S.size:=by omega
 have h8d:decide ((S.size:Int)<8)=false:=by simp;omega
 have h8s:(S.size:Int)<=140737488355328:=by omega
 have c1:=fun w=>ZaT Z w n k (by omega) hn
 rw [hY] at c1;have c2:=fun w=>ZaV (Bk.pt (S.extract 0 8)) Y (n:Nat) w
 rw [hE] at c2;have c3:=fun w=>ZiX hd hX hm w
 clear hn hY hE hm;have HX:Hid (∀ i,Bk.ptK S 8 i=Bk.pt (S.extract 0 8) i):=ZjF S;generalize Bk.pt (S.extract 0 8)=f at *;have hif:=Zb f;have R3:=RowAt.new w (fun _=>0);have HB:Below w.heap.size w (w.alloc (.cells (arr fun _=>0) 127)):=(bR _ _).alloc (nl _) _;rw [<-Zk] at R3 HB;go_enter Tryz.func70,Tryz.ntmps70
 go_wp2_with fail
 go_region
 go_wp2_with fail
 rw [Zk] at R3 HB;rw [Zk];generalize w.alloc (.cells (arr fun _=>0) 127)=w0 at *
 obtain ⟨g3,hg3⟩:∃ g3,w.heap.size=g3:=⟨_,rfl⟩
 have hq:Hid (w.heap.size<=g3):=Nat.le_of_eq hg3;have hg3':w.heap.size=g3:=hg3;have R3':RowAt w0 g3 (Bk.ptK S 0):=by rw [<-hg3];exact R3.congr (fun i _=>by simp [Bk.ptK])
 clear R3;rw [hg3'];clear hg3;go_loopw [9] (fun i wr=>∃ k:Nat,k<=8/\i=.int .i64 k/\RowAt wr g3 (Bk.ptK S k)/\Below w.heap.size w wr) (fun i _=>8 - (intOf i).toNat)
 case atStart=>exact ⟨0,by omega,rfl,R3',HB.drew⟩
 case round =>
  clear R3' HB;obtain ⟨k,hk,rfl,R3,HB⟩:=hrel;by_cases hlt:k<8
  ·have hk1:decide ((k:Int)<8)=true:=by simp;omega
   have hk2:decide (k<8)=true:=by simp;omega
   have hks:k<S.size:=by omega
   have hk3:(k:Int)<(S.size:Int):=by omega
   obtain ⟨x,hxx⟩:∃ x:Int,(S[k].toNat:Int)=x:=⟨_,rfl⟩
   have hA:Cd.at8 S k=S[k].toNat:=by unfold Cd.at8;rw [Nm.ZL S k hks];rfl
   have hA2:=Cd.ZaC S k;have hx0:0<=x:=by omega
   have hx1:x<=255:=by omega
   obtain ⟨H,hH⟩:∃ H,Cd.at8 S k / 16=H:=⟨_,rfl⟩
   obtain ⟨L,hL⟩:∃ L,Cd.at8 S k % 16=L:=⟨_,rfl⟩
   have e1:x / 16=(H:Int):=by omega
   have e2:x % 16=(L:Int):=by omega
   have e3:x.tdiv 16=(H:Int):=by rw [Int.tdiv_eq_ediv_of_nonneg hx0];exact e1
   have e4:x.tmod 16=(L:Int):=by rw [Int.tmod_eq_emod_of_nonneg hx0];exact e2
   have hH2:H<16:=by omega
   have hL2:L<16:=by omega
   have u1:IntKind.u8.wrap (H:Int)=(H:Int):=IntWalk.u8_in _ ⟨by omega,by omega⟩;have u2:IntKind.i64.wrap (H:Int)=(H:Int):=IntWalk.i64_in _ ⟨by omega,by omega⟩;have u3:IntKind.u8.wrap (L:Int)=(L:Int):=IntWalk.u8_in _ ⟨by omega,by omega⟩;have u4:IntKind.i64.wrap (L:Int)=(L:Int):=IntWalk.i64_in _ ⟨by omega,by omega⟩
   obtain ⟨K2,hK2e⟩:∃ K2,2*k=K2:=⟨_,rfl⟩
   obtain ⟨K3,hK3e⟩:∃ K3,2*k+1=K3:=⟨_,rfl⟩
   have hK2:K2<16:=by omega
   have hK3:K3<16:=by omega
   have m2:2*(k:Int)=(K2:Int):=by omega
   have m3:(K2:Int)+1=(K3:Int):=by omega
   have hK2i:(K2:Int)<16:=by omega
   have hK3i:(K3:Int)<16:=by omega
   have w4:IntKind.i64.wrap (K2:Int)=(K2:Int):=IntWalk.i64_in _ ⟨by omega,by omega⟩;have w5:IntKind.i64.wrap (K3:Int)=(K3:Int):=IntWalk.i64_in _ ⟨by omega,by omega⟩;have c1:=R3.cell K2 hK2;have f1:=R3.frozen K2;have c2:=R3.cell K3 hK3;have f2:=R3.frozen K3;have S3:=R3.set K2 (H:Int);have SB:=HB.setCell (p:=⟨g3,K2,none⟩) (by have:=hq.out;show _<=g3;omega) (.int .i64 (H:Int));have T3:=(S3.set K3 (L:Int)).congr (f':=Bk.ptK S (k+1)) (fun i _=>by rw [<-hK2e,<-hK3e,<-hH,<-hL];exact Bk.ZcG S k i);have TB:=SB.setCell (p:=⟨g3,K3,none⟩) (by have:=hq.out;show _<=g3;omega) (.int .i64 (L:Int));clear hA hA2 hH hL e1 e2 hK2e hK3e R3 HB S3 SB;go_wp2_with fail
   go_region
   all_goals go_wp2_with fail
   all_goals go_roundw
   case rel=>exact ⟨k+1,by omega,by go_num,T3,TB.drew⟩
   case measure=>simp [intOf];omega
  ·obtain rfl:k=8:=by omega
   have hk1:decide ((8:Int)<8)=false:=by decide
   have R4:=R3.congr (f':=f) (fun i _=>HX.out i);clear R3 HX hx;go_wp2_with fail
   refine (c1 _).mono ?_;rintro e w1 ⟨rfl,G1⟩;have R5:=R4.below G1;have B5:=bch HB G1 (nl _);clear R4 HB G1 c1;go_wp2_with (refine wpList_load_row rfl 127 _ rfl g3 rfl 127 (arr f) (0,0) _ R5.2 U127 rfl hif ?_)
   refine (c2 _).mono ?_;rintro e w2 ⟨rfl,G2⟩;have B6:=bch B5 G2 (nl _);clear R5 B5 G2 c2;go_wp2_with fail
   refine (c3 _).mono ?_;rintro e w3 ⟨G3,rfl⟩;have B7:=bch B6 G3 (nl _);go_wp2_with fail
   go_ret2
   exact ⟨rfl,B7⟩
theorem ZgU (dict b S:ByteArray) (w:World) (hd:dict.size<=256) (hb:b.size<=140737488355328) (h0:0<b.size) (hS:b.extract 1 b.size=S) (hx:(b[0].toNat:Int)=2) (Z:ByteArray) (hZ:S.extract 8 S.size=Z) (h8:¬ S.size<8) (n k:Nat) (Y:ByteArray) (hn:Nm.Zm Z.data.toList=some (n,k)) (hY:Z.extract k Z.size=Y) (X1:ByteArray) (hE:Cd.rd (Bk.pt (S.extract 0 8)) Y (n:Nat)=(X1,0)) (hX:X1.size<=140737488355328) (m:List Tk.T) (hm:Zz dict X1=some m) :
 Calls Tryz.prog 70 #[.string dict,.string b] w fun e w'=>e=.returned (.tuple #[.string (Zas dict m),.bool true])/\Below w.heap.size w w':=by
 have hne:=ZY (b:=b) (by omega);have hb1:(1:Int)<=(b.size:Int):=by omega
 have hb1n:1<=b.size:=by omega
 have hb0:(0:Int)<(b.size:Int):=by omega
 have hbi:(b.size:Int)<=140737488355328:=by omega
 have hs1:=Zp b 1 b.size;rw [hS] at hs1;have hs2:S.size<=140737488355328:=by omega
 have hz1:=Zp S 8 S.size;rw [hZ] at hz1;have hz2:Z.size<=140737488355328:=by omega
 clear hs1 hz1;have h8':(8:Int)<=(S.size:Int):=by omega
 have h8n:8<=S.size:=by omega
 have h8d:decide ((S.size:Int)<8)=false:=by simp;omega
 have h8s:(S.size:Int)<=140737488355328:=by omega
 have c1:=fun w=>ZaT Z w n k (by omega) hn
 rw [hY] at c1;have c2:=fun w=>ZaV (Bk.pt (S.extract 0 8)) Y (n:Nat) w
 rw [hE] at c2;have c3:=fun w=>Zhz hd hX hm w
 have c4:=fun ad cap w h=>ZgI hd hm ad cap w h
 clear hn hY hE hm;generalize Zas dict m=P at *;have HX:Hid (∀ i,Bk.ptK S 8 i=Bk.pt (S.extract 0 8) i):=ZjF S;generalize Bk.pt (S.extract 0 8)=f at *;have hif:=Zb f;have R3:=RowAt.new w (fun _=>0);have HB:Below w.heap.size w (w.alloc (.cells (arr fun _=>0) 127)):=(bR _ _).alloc (nl _) _;rw [<-Zk] at R3 HB;go_enter Tryz.func70,Tryz.ntmps70
 go_wp2_with fail
 go_region
 go_wp2_with fail
 rw [Zk] at R3 HB;rw [Zk];generalize w.alloc (.cells (arr fun _=>0) 127)=w0 at *
 obtain ⟨g3,hg3⟩:∃ g3,w.heap.size=g3:=⟨_,rfl⟩
 have hq:Hid (w.heap.size<=g3):=Nat.le_of_eq hg3;have hg3':w.heap.size=g3:=hg3;have R3':RowAt w0 g3 (Bk.ptK S 0):=by rw [<-hg3];exact R3.congr (fun i _=>by simp [Bk.ptK])
 clear R3;rw [hg3'];clear hg3;go_loopw [9] (fun i wr=>∃ k:Nat,k<=8/\i=.int .i64 k/\RowAt wr g3 (Bk.ptK S k)/\Below w.heap.size w wr) (fun i _=>8 - (intOf i).toNat)
 case atStart=>exact ⟨0,by omega,rfl,R3',HB.drew⟩
 case round =>
  clear R3' HB;obtain ⟨k,hk,rfl,R3,HB⟩:=hrel;by_cases hlt:k<8
  ·have hk1:decide ((k:Int)<8)=true:=by simp;omega
   have hk2:decide (k<8)=true:=by simp;omega
   have hks:k<S.size:=by omega
   have hk3:(k:Int)<(S.size:Int):=by omega
   obtain ⟨x,hxx⟩:∃ x:Int,(S[k].toNat:Int)=x:=⟨_,rfl⟩
   have hA:Cd.at8 S k=S[k].toNat:=by unfold Cd.at8;rw [Nm.ZL S k hks];rfl
   have hA2:=Cd.ZaC S k;have hx0:0<=x:=by omega
   have hx1:x<=255:=by omega
   obtain ⟨H,hH⟩:∃ H,Cd.at8 S k / 16=H:=⟨_,rfl⟩
   obtain ⟨L,hL⟩:∃ L,Cd.at8 S k % 16=L:=⟨_,rfl⟩
   have e1:x / 16=(H:Int):=by omega
   have e2:x % 16=(L:Int):=by omega
   have e3:x.tdiv 16=(H:Int):=by rw [Int.tdiv_eq_ediv_of_nonneg hx0];exact e1
   have e4:x.tmod 16=(L:Int):=by rw [Int.tmod_eq_emod_of_nonneg hx0];exact e2
   have hH2:H<16:=by omega
   have hL2:L<16:=by omega
   have u1:IntKind.u8.wrap (H:Int)=(H:Int):=IntWalk.u8_in _ ⟨by omega,by omega⟩;have u2:IntKind.i64.wrap (H:Int)=(H:Int):=IntWalk.i64_in _ ⟨by omega,by omega⟩;have u3:IntKind.u8.wrap (L:Int)=(L:Int):=IntWalk.u8_in _ ⟨by omega,by omega⟩;have u4:IntKind.i64.wrap (L:Int)=(L:Int):=IntWalk.i64_in _ ⟨by omega,by omega⟩
   obtain ⟨K2,hK2e⟩:∃ K2,2*k=K2:=⟨_,rfl⟩
   obtain ⟨K3,hK3e⟩:∃ K3,2*k+1=K3:=⟨_,rfl⟩
   have hK2:K2<16:=by omega
   have hK3:K3<16:=by omega
   have m2:2*(k:Int)=(K2:Int):=by omega
   have m3:(K2:Int)+1=(K3:Int):=by omega
   have hK2i:(K2:Int)<16:=by omega
   have hK3i:(K3:Int)<16:=by omega
   have w4:IntKind.i64.wrap (K2:Int)=(K2:Int):=IntWalk.i64_in _ ⟨by omega,by omega⟩;have w5:IntKind.i64.wrap (K3:Int)=(K3:Int):=IntWalk.i64_in _ ⟨by omega,by omega⟩;have c1:=R3.cell K2 hK2;have f1:=R3.frozen K2;have c2:=R3.cell K3 hK3;have f2:=R3.frozen K3;have S3:=R3.set K2 (H:Int);have SB:=HB.setCell (p:=⟨g3,K2,none⟩) (by have:=hq.out;show _<=g3;omega) (.int .i64 (H:Int));have T3:=(S3.set K3 (L:Int)).congr (f':=Bk.ptK S (k+1)) (fun i _=>by rw [<-hK2e,<-hK3e,<-hH,<-hL];exact Bk.ZcG S k i);have TB:=SB.setCell (p:=⟨g3,K3,none⟩) (by have:=hq.out;show _<=g3;omega) (.int .i64 (L:Int));clear hA hA2 hH hL e1 e2 hK2e hK3e R3 HB S3 SB;go_wp2_with fail
   go_region
   all_goals go_wp2_with fail
   all_goals go_roundw
   case rel=>exact ⟨k+1,by omega,by go_num,T3,TB.drew⟩
   case measure=>simp [intOf];omega
  ·obtain rfl:k=8:=by omega
   have hk1:decide ((8:Int)<8)=false:=by decide
   have R4:=R3.congr (f':=f) (fun i _=>HX.out i);clear R3 HX hx;go_wp2_with fail
   refine (c1 _).mono ?_;rintro e w1 ⟨rfl,G1⟩;have R5:=R4.below G1;have B5:=bch HB G1 (nl _);clear R4 HB G1 c1;go_wp2_with (refine wpList_load_row rfl 127 _ rfl g3 rfl 127 (arr f) (0,0) _ R5.2 U127 rfl hif ?_)
   refine (c2 _).mono ?_;rintro e w2 ⟨rfl,G2⟩;have B6:=bch B5 G2 (nl _);clear R5 B5 G2 c2;go_wp2_with fail
   refine (c3 _).mono ?_;rintro e w3 ⟨G3,ad,cap,rfl,S3⟩;have B7:=bch B6 G3 (nl _);go_wp2_with fail
   refine (c4 ad cap _ S3).mono ?_;rintro e w4 ⟨rfl,G4⟩;have B8:=bch B7 G4 (nl _);go_wp2_with fail
   go_ret2
   exact ⟨rfl,B8⟩
set_option linter.unusedVariables false
def ZaP (u:ByteArray × Int) (w:World) (e:Ending) (w':World):Prop:=∃ x,e=.returned (.tuple #[.string x,.bool (decide (u.2=0))])/\(u.2=0->x=u.1)/\(u.2 ≠ 0->u=(⟨#[]⟩,1))/\Below w.heap.size w w'
theorem ZbG {u:ByteArray × Int} (hu:u=(⟨#[]⟩,1)) {w:World} {x:ByteArray}:∀ e w',(e=.returned (.tuple #[.string x,.bool false])/\Below w.heap.size w w')->ZaP u w e w':=by
 subst hu;intro e w' h;exact ⟨x,h.1,fun h9=>absurd h9 (by decide),fun _=>rfl,h.2⟩
theorem ZfL {u:ByteArray × Int} {x:ByteArray} (hu:u=(x,0)) {w:World}:∀ e w',(e=.returned (.tuple #[.string x,.bool true])/\Below w.heap.size w w')->ZaP u w e w':=by
 subst hu;intro e w' h;exact ⟨x,h.1,fun _=>rfl,fun h9=>absurd rfl h9,h.2⟩
theorem Zds (dict b:ByteArray) (w:World) (hd:dict.size<=256) (hb:b.size<=140737488355328) :
 Calls Tryz.prog 70 #[.string dict,.string b] w fun e w'=>ZaP (Bk.unp dict b) w e w':=by
 by_cases h0:b.size=0
 ·have e:Bk.unp dict b=(⟨#[]⟩,1):=by rw [Bk.unp,if_neg (by omega),if_pos h0]
  obtain rfl:b=⟨#[]⟩:=by
   apply ByteArray.ext;exact Array.eq_empty_of_size_eq_zero h0
  exact (ZeL dict w).mono (ZbG e)
 ·have h1:0<b.size:=by omega
  have hA:=Zpa h1;have hU:Bk.unp dict b=if Cd.at8 b 0=0 then Bk.whl (b.extract 1 b.size) else if Cd.at8 b 0=1 then Bk.ply dict (b.extract 1 b.size) else if Cd.at8 b 0=2 then (if (Bk.dec (b.extract 1 b.size)).2=0 then Bk.ply dict (Bk.dec (b.extract 1 b.size)).1 else (⟨#[]⟩,(Bk.dec (b.extract 1 b.size)).2)) else (⟨#[]⟩,1):=by rw [Bk.unp,if_neg (by omega),if_neg h0]
  have hs1:=Zp b 1 b.size
  obtain ⟨S,hS⟩:∃ S,b.extract 1 b.size=S:=⟨_,rfl⟩
  rw [hS] at hU hs1;by_cases k0:Cd.at8 b 0=0
  ·rw [if_pos k0] at hU;have c:=Zlt dict b S w hd hb h1 hS (by omega);by_cases hl:512<S.size
   ·rw [Bk.whl,if_pos hl] at hU;rw [decide_eq_false (by omega)] at c;exact c.mono (ZbG hU)
   ·rw [Bk.whl,if_neg hl] at hU;rw [decide_eq_true (by omega)] at c;exact c.mono (ZfL hU)
  ·rw [if_neg k0] at hU;by_cases k1:Cd.at8 b 0=1
   ·rw [if_pos k1] at hU
    cases hm:Zz dict S with
    | none =>
     rw [Bk.ply,hm] at hU;exact (Zii dict b S w hd hb h1 hS (by omega) hm).mono (ZbG hU)
    | some m =>
     rw [Bk.ply,hm] at hU;exact (ZhU dict b S w hd hb h1 hS (by omega) m hm).mono (ZfL hU)
   ·rw [if_neg k1] at hU;by_cases k2:Cd.at8 b 0=2
    ·rw [if_pos k2] at hU;by_cases h8:S.size<8
     ·have e:Bk.dec S=(⟨#[]⟩,1):=by rw [Bk.dec,if_pos h8]
      rw [e,if_neg (by decide)] at hU;exact (Ziw dict b S w hd hb h1 hS (by omega) h8).mono (ZbG hU)
     ·cases hn:Nm.Zm (S.extract 8 S.size).data.toList with
      | none =>
       rw [Bk.Zjr h8 hn,if_neg (by decide)] at hU;exact (ZhX dict b S w hd hb h1 hS (by omega) _ rfl h8 hn).mono (ZbG hU)
      | some nk =>
       obtain ⟨n,k⟩:=nk;rw [Bk.ZfF h8 hn] at hU;by_cases hE:(Cd.rd (Bk.pt (S.extract 0 8)) ((S.extract 8 S.size).extract k (S.extract 8 S.size).size) (n:Nat)).2=0
       ·rw [if_pos hE,if_pos rfl] at hU;have hz:=ZsE _ _ _ hE
        have e9:Cd.rd (Bk.pt (S.extract 0 8)) ((S.extract 8 S.size).extract k (S.extract 8 S.size).size) (n:Nat)=((Cd.rd (Bk.pt (S.extract 0 8)) ((S.extract 8 S.size).extract k (S.extract 8 S.size).size) (n:Nat)).1,0):=by
         rw [<-hE]
        cases hm:Zz dict (Cd.rd (Bk.pt (S.extract 0 8)) ((S.extract 8 S.size).extract k (S.extract 8 S.size).size) (n:Nat)).1 with
        | none =>
         rw [Bk.ply,hm] at hU;exact (Zhg dict b S w hd hb h1 hS (by omega) _ rfl h8 n k _ hn rfl _ e9 hz hm).mono (ZbG hU)
        | some m =>
         rw [Bk.ply,hm] at hU;exact (ZgU dict b S w hd hb h1 hS (by omega) _ rfl h8 n k _ hn rfl _ e9 hz m hm).mono (ZfL hU)
       ·rw [if_neg hE,if_neg (by decide)] at hU;exact (ZhO dict b S w hd hb h1 hS (by omega) _ rfl h8 n k _ hn rfl hE).mono (ZbG hU)
    ·rw [if_neg k2] at hU;exact (Zlw dict b S w hd hb h1 hS (by omega)).mono (ZbG hU)
theorem Zlg (ad af:Option Addr) (cd cf:Nat) (a:Ar.A) (i:Nat) (w:World) (h:ArV w ad af a) (hs:SaneA a) (hc:Ar.chk a=0) (hi:i<a.files.length) :
 Calls Tryz.prog 40 #[av ad cd af cf a,.int .i64 (i:Nat)] w fun e w'=>e=.returned (.string (Ar.tx a.dicts (Ar.fa a.files i)))/\Below w.heap.size w w':=by
 have hb:=fun o=>(bR w.heap.size w).alloc (nl _) o
 obtain ⟨m1,m2,m3⟩:=Ar.Zw.1 (Ar.Ze.1 hc).1;have hok:=Ar.ZcZ (Ar.ZgD (Ar.Ze.1 hc).2 hi);have hh:Ar.has a.dicts (Ar.fa a.files i).dict=true:=(Bool.and_eq_true _ _ ▸ hok.2.2:_/\_).1;have hup:(Ar.up a.dicts (Ar.fa a.files i)).2=0:=Ar.Zqp hok.2.2;have C1:Hid (∀ w',Below w.heap.size w w'->Calls Tryz.prog 71 #[av ad cd af cf a,.int .i64 (Ar.fa a.files i).dict] w' fun e w2=>e=.returned (.string (Ar.dct a.dicts (Ar.fa a.files i).dict))/\Below w'.heap.size w' w2):=fun w' h9=>ZcX ad af cd cf a _ w' (h.ds.below h9) hs.nd hh
 have C2:Hid (∀ w',Calls Tryz.prog 70 #[.string (Ar.dct a.dicts (Ar.fa a.files i).dict),.string (Ar.fa a.files i).blk] w' fun e w2=>ZaP (Ar.up a.dicts (Ar.fa a.files i)) w' e w2):=fun w'=>Zds _ _ w' (Ar.ZaL (Ar.Ze.1 hc).1 _) (hs.bk i)
 obtain ⟨b,off,rfl,hbl,hcell⟩:=h.fs.at hi;obtain ⟨c0,c1,c2,c3,c4⟩:=hcell;unfold Ar.tx;unfold ZaP at C2;unfold av at C1 |-
 generalize Ar.dct a.dicts (Ar.fa a.files i).dict=X at *;generalize (Ar.fa a.files i).dict=f1 at *;generalize (Ar.fa a.files i).blk=f4 at *
 obtain ⟨⟨T,E⟩,hTE⟩:∃ p,Ar.up a.dicts (Ar.fa a.files i)=p:=⟨_,rfl⟩
 rw [hTE] at hup C2 |-
 simp only at hup C2 |-
 subst hup
 have C3:Hid (∀ w',Calls Tryz.prog 70 #[.string X,.string f4] w' fun e w2=>e=.returned (.tuple #[.string T,.bool true])/\Below w'.heap.size w' w2):=fun w'=>(C2.out w').mono (by
  rintro e w2 ⟨x,rfl,h1,_,G⟩
  exact ⟨by rw [h1 rfl];rfl,G⟩)
 clear C2;clear hTE hok hh h hs hc c0 c2 c3;generalize a.dicts.length=D at *;generalize a.files.length=N at *;have hii:(i:Int)<(N:Int):=by omega
 have hNi:(N:Int)<=12:=by omega
 go_enter Tryz.func40,Tryz.ntmps40
 go_wp2_with fail
 have a0:(w.alloc (.cells #[.slice ad D cd,.slice (some ⟨b,off,none⟩) N cf] 33 (0,0))).cell? ⟨w.heap.size,0,none⟩=some (.slice ad D cd):=cN _ _ _ 0;have a1:(w.alloc (.cells #[.slice ad D cd,.slice (some ⟨b,off,none⟩) N cf] 33 (0,0))).cell? ⟨w.heap.size,1,none⟩=some (.slice (some ⟨b,off,none⟩) N cf):=cN _ _ _ 1;have B1:=hb (.cells #[.slice ad D cd,.slice (some ⟨b,off,none⟩) N cf] 33 (0,0));have hz:w.heap.size<(w.alloc (.cells #[.slice ad D cd,.slice (some ⟨b,off,none⟩) N cf] 33 (0,0))).heap.size:=by simp
 generalize (w.alloc (.cells #[.slice ad D cd,.slice (some ⟨b,off,none⟩) N cf] 33 (0,0)))=w1 at *;have k1:=(B1.cell (p:=⟨b,off+i*5+1,none⟩) hbl).trans c1;have k4:=(B1.cell (p:=⟨b,off+i*5+4,none⟩) hbl).trans c4;have hbl1:b<w1.heap.size:=nT hbl B1.size
 have HS:Hid (∀ w',Below w1.heap.size w1 w'->Below w1.heap.size w1 w'/\w'.cell? ⟨w.heap.size,0,none⟩=some (.slice ad D cd)/\w'.cell? ⟨w.heap.size,1,none⟩=some (.slice (some ⟨b,off,none⟩) N cf)/\w'.cell? ⟨b,off+i*5+1,none⟩=some (.int .i64 f1)/\w'.cell? ⟨b,off+i*5+4,none⟩=some (.string f4)):=fun w' h9 =>
  ⟨h9,(h9.cell (p:=⟨w.heap.size,0,none⟩) hz).trans a0,(h9.cell (p:=⟨w.heap.size,1,none⟩) hz).trans a1,(h9.cell (p:=⟨b,off+i*5+1,none⟩) hbl1).trans k1,(h9.cell (p:=⟨b,off+i*5+4,none⟩) hbl1).trans k4⟩
 have C1':Hid (∀ w',Below w1.heap.size w1 w'->Calls Tryz.prog 71 #[.agg #[.slice ad D cd,.slice (some ⟨b,off,none⟩) N cf],.int .i64 f1] w' fun e w2=>e=.returned (.string X)/\Below w'.heap.size w' w2):=fun w' h9=>C1.out w' (bch B1 h9 (nl _))
 clear a0 a1 k1 k4 c1 c4 C1;go_region_held3 (fun w'=>Below w1.heap.size w1 w'/\w'.cell? ⟨w.heap.size,0,none⟩=some (.slice ad D cd)/\w'.cell? ⟨w.heap.size,1,none⟩=some (.slice (some ⟨b,off,none⟩) N cf)/\w'.cell? ⟨b,off+i*5+1,none⟩=some (.int .i64 f1)/\w'.cell? ⟨b,off+i*5+4,none⟩=some (.string f4))
  (first | (exact HS.out _ ((bR _ _).drew)) | (exact HS.out _ (bch (And.left (by assumption)) G6 (nl _))) | (exact HS.out _ (bch (And.left (by assumption)) G5 (nl _))))
  (first
   | (go_at_call 71;refine (C1'.out _ ?_).mono ?_;exact And.left (by assumption);rintro e w5 ⟨rfl,G5⟩)
   | (go_at_call 70;refine (C3.out _).mono ?_;rintro e w6 ⟨rfl,G6⟩))
 all_goals
  have B6:Below w.heap.size w w6:=bch B1 (bch (bch ((bR _ _).drew) G5 (nl _)) G6 (nl _)) (nl _);go_wp2_with fail
  go_ret
  exact ⟨rfl,B6⟩
end Go.Proofs.YtbjbjbpgmojcbacGreat
