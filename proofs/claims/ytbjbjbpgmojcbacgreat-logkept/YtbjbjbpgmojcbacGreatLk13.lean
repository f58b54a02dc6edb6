/- A part of the proof: what it leans on. -/
import Derived.Laws.StructEq
import Derived.Test.YtbjbjbpgmojcbacGreatLk12
set_option maxRecDepth 4000
set_option maxHeartbeats 2000000
namespace Go.Proofs.YtbjbjbpgmojcbacGreat
open Go.RowKit
theorem Zdp (a b:ByteArray):(a.toList == b.toList)=decide (a=b):=by
 by_cases h:a=b
 ·subst h;simp
 ·rw [decide_eq_false h];refine Bool.eq_false_iff.2 (fun h9=>h ?_);have h8:a.toList=b.toList:=by simpa using h9
  rw [ByteArray.toList_eq,ByteArray.toList_eq] at h8;apply ByteArray.ext;exact Array.toList_inj.1 h8
theorem Zue (w:World) (f:Nat->Int) (h:Nat->ByteArray):RowAt ((w.alloc (.cells (arr f) 127)).alloc (.cells (arrS h) 160)) w.heap.size f/\StAt ((w.alloc (.cells (arr f) 127)).alloc (.cells (arrS h) 160)) (w.heap.size+1) h/\Below w.heap.size w ((w.alloc (.cells (arr f) 127)).alloc (.cells (arrS h) 160)) :=
 ⟨(RowAt.new w f).alloc _,by have:=StAt.new (w.alloc (.cells (arr f) 127)) h;simpa using this,((bR _ _).alloc (nl _) _).alloc (by simp) _⟩
theorem ZmP (f:Nat->Int) (bs:List Bool) (w:World) (hR:Cd.InR f 15 16) (hb:bs.length<=1000000) :
 Calls Tryz.prog 135 #[.agg (arr f),.agg (arrS fun i=>Cd.str (Cd.cw f i)),.string (Cd.str bs)] w fun e w'=>e=.returned (.int .i64 (Cd.frt f bs))/\Below w.heap.size w w':=by
 obtain ⟨hS,hSe⟩:∃ h,(fun i=>Cd.str (Cd.cw f i))=h:=⟨_,rfl⟩
 rw [hSe];have HS:Hid ((fun i=>Cd.str (Cd.cw f i))=hS):=hSe;have HR:Hid (Cd.InR f 15 16):=hR
 obtain ⟨r,hr⟩:∃ r,Cd.frt f bs=r:=⟨_,rfl⟩
 rw [hr];have Hr:Hid (Cd.frt f bs=r):=hr;clear hSe hR hr;have hsz:(Cd.str bs).size<=1000000:=by rw [Cd.Zaa];exact hb
 have Hsz:Hid ((Cd.str bs).size=bs.length):=Cd.Zaa bs;obtain ⟨R1,R2,B1⟩:=Zue w f hS;go_enter Tryz.func135,Tryz.ntmps135
 go_wp2_with fail
 generalize (w.alloc (.cells (arr f) 127)).alloc (.cells (arrS hS) 160)=w0 at *;go_loopw [7] (fun i wr=>∃ k:Nat,k<=16/\i=.int .i64 k/\Hid (Cd.frK f bs k=-1)/\RowAt wr w.heap.size f/\StAt wr (w.heap.size+1) hS/\Below w.heap.size w wr) (fun i _=>16 - (intOf i).toNat)
 case atStart=>exact ⟨0,by omega,rfl,rfl,R1,R2,B1⟩
 case round =>
  clear R1 R2 B1;obtain ⟨k,hk,rfl,hF,R1,R2,B1⟩:=hrel;by_cases hlt:k<16
  ·have hk1:decide ((k:Int)<16)=true:=by simp;omega
   have hk2:decide (k<16)=true:=by simp;omega
   have hk3:(k:Int)<16:=by omega
   have c1:=R1.cell k hlt;have c2:wr.cell? ⟨w.heap.size+1,k,none⟩=some (.string (Cd.str (Cd.cw f k))):=by rw [R2.cell k hlt,<-HS.out]
   have hfk:=HR.out k hlt
   have HY:Hid (Cd.cnd f bs k->r=(k:Int)):=fun h=>by
    have h9:=Cd.Zno hF.out h (15 - k);rw [show k+1+(15 - k)=16 by omega] at h9;exact Hr.out.symm.trans h9
   have HN:Hid (¬ Cd.cnd f bs k->Cd.frK f bs (k+1)=-1):=fun h=>Cd.ZqL hF.out h
   by_cases h1:0<f k
   ·by_cases h2:(f k).toNat<=bs.length
    ·obtain ⟨N,hN⟩:∃ N:Nat,f k=(N:Int):=⟨(f k).toNat,by omega⟩
     have hext:=Cd.Zij bs N;have hbe:=Zdp (Cd.str (bs.take N)) (Cd.str (Cd.cw f k))
     have HC:Hid (Cd.cnd f bs k ↔ Cd.str (bs.take N)=Cd.str (Cd.cw f k)):=by
      unfold Cd.cnd;rw [hN,Int.toNat_natCast];exact ⟨fun h=>by rw [h.2.2],fun h=>⟨by omega,by rw [hN,Int.toNat_natCast] at h2;exact h2,Cd.ZsN h⟩⟩
     rw [hN] at h1 h2 hfk c1;rw [Int.toNat_natCast] at h2;have hNs:(N:Int)<=((Cd.str bs).size:Int):=by have:=Hsz.out;omega
     have hNs':N<=(Cd.str bs).size:=by have:=Hsz.out;omega
     have d1:decide ((0:Int)<(N:Int))=true:=by simp;omega
     have d1':decide (0<N)=true:=by simp;omega
     have d2:decide ((N:Int)<=((Cd.str bs).size:Int))=true:=by simp;omega
     have d2':decide (N<=(Cd.str bs).size)=true:=by simp;omega
     by_cases hc:Cd.str (bs.take N)=Cd.str (Cd.cw f k)
     ·obtain rfl:=HY.out (HC.out.2 hc);rw [decide_eq_true hc] at hbe;generalize Cd.str (bs.take N)=s1 at *;generalize Cd.str (Cd.cw f k)=s2 at *;generalize Cd.str bs=sB at *;clear hc h1 h2 hfk hN HC HN HY;go_wp2_with fail
      go_quiet (fail)
      go_wp2_with fail
      go_ret
      exact ⟨rfl,below_drewN B1 _⟩
     ·have HNN:Hid (Cd.frK f bs (k+1)=-1):=HN.out (fun h=>hc (HC.out.1 h));rw [decide_eq_false hc] at hbe;generalize Cd.str (bs.take N)=s1 at *;generalize Cd.str (Cd.cw f k)=s2 at *;generalize Cd.str bs=sB at *;clear hc h1 h2 hfk hN HC HN HY;go_wp2_with fail
      go_quiet (fail)
      go_wp2_with fail
      exact ⟨⟨k+1,by omega,by go_num,HNN,R1.below (below_drewN (bR _ _) _),R2.below (below_drewN (bR _ _) _),below_drewN B1 _⟩,by simp [intOf];omega⟩
    ·have HNN:Hid (Cd.frK f bs (k+1)=-1):=HN.out (fun h=>h2 h.2.1);have d1:decide (0<f k)=true:=by simpa using h1
     have d2:decide (f k<=((Cd.str bs).size:Int))=false:=by have:=Hsz.out;simp;omega
     generalize f k=z at *;generalize Cd.str bs=sB at *;clear h1 h2 hfk HN HY c2;go_wp2_with fail
     go_quiet (fail)
     go_wp2_with fail
     exact ⟨⟨k+1,by omega,by go_num,HNN,R1.below (below_drewN (bR _ _) _),R2.below (below_drewN (bR _ _) _),below_drewN B1 _⟩,by simp [intOf];omega⟩
   ·have HNN:Hid (Cd.frK f bs (k+1)=-1):=HN.out (fun h=>h1 h.1);have d1:decide (0<f k)=false:=by simpa using h1
    generalize f k=z at *;clear h1 hfk HN HY c2;go_wp2_with fail
    go_quiet (fail)
    go_wp2_with fail
    exact ⟨⟨k+1,by omega,by go_num,HNN,R1.below (below_drewN (bR _ _) _),R2.below (below_drewN (bR _ _) _),below_drewN B1 _⟩,by simp [intOf];omega⟩
  ·obtain rfl:k=16:=by omega
   obtain rfl:r=-1:=Hr.out.symm.trans hF.out;go_wp2_with fail
   go_ret
   exact ⟨rfl,B1⟩
theorem RowAt.grown {w w1:World} {g:Nat} {f:Nat->Int} {v:Value} {o:Obj} (h:RowAt w g f) (hne:some g ≠ v.ownBlock) (hg:(w.alloc o).grownBy w1 v.ownBlock):RowAt w1 g f:=by
 have hblk:w1.heap[g]?=w.heap[g]?:=by
  rw [hg.block g (by have:=h.1;simp;omega) hne];exact ((bR w.heap.size w).alloc (nl _) o).block g h.1
 have h2:=hblk.trans h.2;exact ⟨(aG.1 h2).1,h2⟩
theorem StAt.grown {w w1:World} {g:Nat} {f:Nat->ByteArray} {v:Value} {o:Obj} (h:StAt w g f) (hne:some g ≠ v.ownBlock) (hg:(w.alloc o).grownBy w1 v.ownBlock):StAt w1 g f:=by
 have hblk:w1.heap[g]?=w.heap[g]?:=by
  rw [hg.block g (by have:=h.1;simp;omega) hne];exact ((bR w.heap.size w).alloc (nl _) o).block g h.1
 have h2:=hblk.trans h.2;exact ⟨(aG.1 h2).1,h2⟩
namespace Cd
def At (f:Nat->Int) (b:ByteArray) (I a:Nat) (q:List UInt8):Prop :=
 (∃ k,I=2*k/\rdK f b k=some (q,a)/\q.length=k) ∨
 (∃ k o a0 x,I=2*k+1/\rdK f b k=some (o,a0)/\o.length=k/\s15 f b a0=(x,a)/\0<=x/\x<16/\q=o++[UInt8.ofNat (16*x).toNat])
theorem At.len {f:Nat->Int} {b:ByteArray} {I a:Nat} {q:List UInt8} (h:At f b I a q):q.length=(I+1) / 2:=by
 rcases h with ⟨k,h1,_,h3⟩ | ⟨k,o,a0,x,h1,_,h3,_,_,_,h4⟩
 ·omega
 ·rw [h4];simp;omega
theorem At.stop {f:Nat->Int} {b:ByteArray} {I a:Nat} {q:List UInt8} {n:Int} (h:At f b I a q) (hc:chk f=0) (hn:¬ (n<0\/1024<n)) (hI:(I:Int)<2*n) (hs:(s15 f b a).1=-1):rd f b n=(⟨#[]⟩,1):=by
 rcases h with ⟨k,h1,h2,_⟩ | ⟨k,o,a0,x,h1,h2,_,h3,_⟩
 ·exact ZaS hc hn (Zfw (k:=k) (a1:=(s15 f b a).2) (a2:=(s15 f b (s15 f b a).2).2) (x:=(s15 f b a).1) (y:=(s15 f b (s15 f b a).2).1) (by omega) h2 rfl rfl (.inl hs))
 ·exact ZaS hc hn (Zfw (k:=k) (a1:=a) (a2:=(s15 f b a).2) (x:=x) (y:=(s15 f b a).1) (by omega) h2 h3 rfl (.inr hs))
theorem At.even {f:Nat->Int} {b:ByteArray} {I a a1:Nat} {q:List UInt8} {x:Int} (h:At f b I a q) (hI:I % 2=0) (hs:s15 f b a=(x,a1)) (h0:0<=x) (h1:x<16):At f b (I+1) a1 (q++[UInt8.ofNat (16*x).toNat]):=by
 rcases h with ⟨k,h1',h2,h3⟩ | ⟨k,o,a0,x,h1',_⟩
 ·exact .inr ⟨k,q,a,x,by omega,h2,h3,hs,h0,h1,rfl⟩
 ·omega
theorem At.odd {f:Nat->Int} {b:ByteArray} {I a a1:Nat} {q:List UInt8} {y:Int} (h:At f b I a q) (hI:I % 2=1) (hs:s15 f b a=(y,a1)) (h0:0<=y) (h1:y<16):∃ x:Int,0<=x/\x<16/\q[I / 2]?=some (UInt8.ofNat (16*x).toNat)/\At f b (I+1) a1 (q.set (I / 2) (UInt8.ofNat (16*x+y).toNat)):=by
 rcases h with ⟨k,h1',h2,h3⟩ | ⟨k,o,a0,x,e1,e2,e3,e4,e5,e6,rfl⟩
 ·omega
 ·refine ⟨x,e5,e6,?_,.inl ⟨k+1,by omega,?_,?_⟩⟩
  ·rw [List.getElem?_append_right (by omega),show I / 2 - o.length=0 by omega];rfl
  ·rw [Zfr e2 e4 hs (by omega),show I / 2=o.length by omega,Int.mul_comm 16 x];simp
  ·simp [e3]
theorem At.last {f:Nat->Int} {b:ByteArray} {I a:Nat} {q:List UInt8} (h:At f b I a q) {n:Nat} (hI:I=2*n):rdK f b n=some (q,a):=by
 rcases h with ⟨k,h1,h2,_⟩ | ⟨k,o,a0,x,h1,_⟩
 ·obtain rfl:k=n:=by omega
  exact h2
 ·omega
end Cd
theorem ZiB (f:Nat->Int) (b:ByteArray) (n:Int) (w:World) (h0:Cd.chk f=0) (hn0:0<=n) (hn1:n<=1024) (hb:(b.size:Int)<=4*n) :
 Calls Tryz.prog 103 #[.agg (arr f),.string b,.int .i64 n] w fun e w'=>e=.returned (.tuple #[.string (Cd.rd f b n).1,.int .i64 (Cd.rd f b n).2])/\Below w.heap.size w w':=by
 have hck:=fun w=>Zan f w
 rw [h0] at hck;have HR:Hid (Cd.InR f 15 16):=(Cd.Ze h0).1;have hwd:=fun w=>Zdo f w HR.out
 obtain ⟨hS,hSe⟩:∃ h,(fun i=>Cd.str (Cd.cw f i))=h:=⟨_,rfl⟩
 rw [hSe] at hwd
 have hfr:∀ (bs:List Bool) (w:World),bs.length<=1000000->Calls Tryz.prog 135 #[.agg (arr f),.agg (arrS hS),.string (Cd.str bs)] w fun e w'=>e=.returned (.int .i64 (Cd.frt f bs))/\Below w.heap.size w w':=fun bs w h=>by
  have:=ZmP f bs w HR.out h;rw [hSe] at this;exact this
 clear hSe;have hin:=Zb f;have hinw:=ZcR hS;have H0:Hid (Cd.chk f=0):=h0;have R1:=RowAt.new w f;have HB:Below w.heap.size w (w.alloc (.cells (arr f) 127)):=(bR _ _).alloc (nl _) _
 obtain ⟨r1,r2,hr⟩:∃ r1 r2,Cd.rd f b n=(r1,r2):=⟨_,_,rfl⟩
 rw [hr];have Hr:Hid (Cd.rd f b n=(r1,r2)):=hr;have db:decide (4*n<(b.size:Int))=false:=by simp;omega
 have hbs:b.size<=4096:=by omega
 clear hr h0;go_enter Tryz.func103,Tryz.ntmps103
 go_wp2_with (refine wpList_load_row rfl 127 _ rfl w.heap.size rfl 127 (arr f) (0,0) _ R1.2 U127 rfl hin ?_)
 refine (hck _).mono ?_;rintro e w1 ⟨rfl,G1⟩;have S1:=R1.below G1;have B1:=bch HB G1 (nl _);clear R1 HB G1 hck;go_wp2_with fail
 refine (ZU n 0 1024 _ hn0 hn1).mono ?_;rintro e w' ⟨rfl,hw'⟩;subst hw';go_wp2_with fail
 go_loopw [9,10] (fun s i wr=>∃ k:Nat,k<=b.size/\i=.int .i64 k/\s=.string (Cd.str (Cd.pre b k))/\RowAt wr w.heap.size f/\Below w.heap.size w wr) (fun _ i _=>b.size - (intOf i).toNat)
 case atStart=>exact ⟨0,by omega,rfl,rfl,S1,B1⟩
 case round =>
  clear S1 B1;obtain ⟨k,hk,rfl,rfl,S1,B1⟩:=hrel;by_cases hlt:k<b.size
  ·have hk1:decide ((k:Int)<(b.size:Int))=true:=by simp;omega
   have hk2:decide (k<b.size)=true:=by simp;omega
   obtain ⟨x,hx⟩:∃ x:Int,(b[k].toNat:Int)=x:=⟨_,rfl⟩
   have hA:Cd.at8 b k=b[k].toNat:=by unfold Cd.at8;rw [Nm.ZL b k hlt];rfl
   have hA2:=Cd.ZaC b k;have hx0:0<=x:=by omega
   have hx1:x<=255:=by omega
   have hbt:=fun w=>ZeD 8 x w hx0 (by omega) (by omega)
   have HE:Hid (Cd.str (Cd.pre b k)++Cd.str (Cd.wb x 8)=Cd.str (Cd.pre b (k+1))):=by
    show _=_;rw [Cd.Zpp,<-Cd.ZdW,hA,hx]
   have sz1:(Cd.str (Cd.pre b k)).size<=40000:=by rw [Cd.Zaa,Cd.ZrA];omega
   have sz2:(Cd.str (Cd.wb x 8)).size<=8:=by rw [Cd.Zaa,Cd.Zdq];omega
   generalize Cd.str (Cd.pre b k)=s1 at *;generalize Cd.str (Cd.wb x 8)=s2 at *;clear hA hA2;go_wp2_with fail
   refine (hbt _).mono ?_;rintro e w2 ⟨rfl,G2⟩;have S2:=S1.below G2;have B2:=bch B1 G2 (nl _);clear S1 B1 G2 hbt;go_wp2_with fail
   go_roundw
   case rel=>exact ⟨k+1,by omega,by go_num,by rw [HE.out],S2,B2⟩
   case measure=>simp [intOf];omega
  ·obtain rfl:k=b.size:=by omega
   rw [Cd.Zsk];have hbl:(Cd.rem b 0).length<=1000000:=by rw [Cd.Zcd];omega
   go_wp2_with (refine wpList_load_row rfl 127 _ rfl w.heap.size rfl 127 (arr f) (0,0) _ S1.2 U127 rfl hin ?_)
   refine (hwd _).mono ?_;rintro e w2 ⟨rfl,G2⟩;have T1:=S1.below G2;have B2:=bch B1 G2 (nl _);clear S1 B1 G2 hwd;go_wp2_with (refine wpList_store_row rfl 160 _ _ rfl w2.heap.size (arrS hS) rfl rfl 160 _ (heap_alloc_last w2 _) hinw rfl (Zfi _) ?_;rw [World.setRow_alloc_new])
   have T7:=StAt.new w2 hS;have T2:=T1.alloc (.cells (arrS hS) 160);have B3:Below w.heap.size w (w2.alloc (.cells (arrS hS) 160)):=B2.alloc (nL T1.1) _;have hgw:Hid (w.heap.size<w2.heap.size):=T1.1;clear T1 B2;generalize w2.alloc (.cells (arrS hS) 160)=w3 at *;generalize w2.heap.size=g7 at *;obtain ⟨i0,hi,hz0,hz1,hz2⟩:=info_parts Zca;go_loopw [9,12,13] (fun s v i wr=>∃ (I a:Nat) (q:List UInt8),(I:Int)<=2*n/\i=.int .i64 I/\s=.string (Cd.str (Cd.rem b a))/\a<=8*b.size/\Hid (Cd.At f b I a q)/\q.length<=1024/\wr.ownsRow (g7+1) 5 1 v q.length (bcs q)/\RowAt wr w.heap.size f/\StAt wr g7 hS/\Below w.heap.size w wr) (fun _ _ i _=>4000 - (intOf i).toNat)
   case atStart=>exact ⟨0,0,[],by omega,rfl,rfl,by omega,.inl ⟨0,rfl,rfl,rfl⟩,by simp,World.ownsRow_nil _ _ _ _,T2,T7,B3⟩
   case round =>
    clear T2 T7 B3;obtain ⟨I,a,q,hI,rfl,rfl,ha,HAt,hql,ho,T2,T7,B3⟩:=hrel;by_cases hlt:(I:Int)<2*n
    ·have hk1:decide ((I:Int)<2*n)=true:=by simpa using hlt
     obtain ⟨x,a1,h1⟩:∃ x a1,Cd.s15 f b a=(x,a1):=⟨_,_,rfl⟩
     obtain ⟨p1,p2,p3⟩:=ZsS ha h1;obtain ⟨f1,f2⟩:=Cd.Zte H0.out ha;rw [h1] at f1 f2;have hf:=fun w=>hfr (Cd.rem b a) w (by rw [Cd.Zcd];omega)
     rw [f1] at hf;go_wp2_with (first | refine wpList_load_row rfl 127 _ rfl w.heap.size rfl 127 (arr f) (0,0) _ T2.2 U127 rfl hin ?_ | refine wpList_load_row rfl 160 _ rfl g7 rfl 160 (arrS hS) (0,0) _ T7.2 U160 rfl hinw ?_)
     refine (hf _).mono ?_;rintro e w4 ⟨rfl,G4⟩;have U2:=T2.below G4;have U7:=T7.below G4;have O4:=Zj ho G4;have B4:=bch B3 G4 (nl _);clear T2 T7 ho B3 G4 hf f1 hfr;by_cases hx:x=-1
     ·have h9:=HAt.out.stop H0.out (n:=n) (by omega) hlt (by rw [h1];exact hx);have h8:=Hr.out.symm.trans h9;simp only [Prod.mk.injEq] at h8;obtain ⟨rfl,rfl⟩:=h8;subst hx;clear h9 f2 h1;go_wp2_with fail
      go_ret2
      exact ⟨rfl,B4⟩
     ·have hx0:0<=x:=by omega
      obtain ⟨X,rfl⟩:∃ X:Nat,x=(X:Int):=⟨x.toNat,by omega⟩
      have hX:X<16:=by omega
      have dx:decide ((X:Int)<0)=false:=by simp
      have f3:=f2 hx;rw [Int.toNat_natCast] at f3;have c1:=U2.cell X hX;have hfX:=HR.out X hX
      obtain ⟨N,hN⟩:∃ N:Nat,f X=(N:Int):=⟨(f X).toNat,by omega⟩
      have hext:(Cd.str (Cd.rem b a)).extract N (Cd.str (Cd.rem b a)).size=Cd.str (Cd.rem b a1):=by
       rw [Cd.ZgH,Cd.ZoY];rw [f3,hN,Int.toNat_natCast]
      have hNs:N<=(Cd.str (Cd.rem b a)).size:=by
       rw [Cd.Zaa,Cd.Zcd];rw [hN,Int.toNat_natCast] at f3;omega
      have hNs2:(N:Int)<=((Cd.str (Cd.rem b a)).size:Int):=by omega
      have hss:(Cd.str (Cd.rem b a)).size<=40000:=by rw [Cd.Zaa,Cd.Zcd];omega
      rw [hN] at c1;have Hq:=HAt.out.len;generalize Cd.str (Cd.rem b a)=s1 at *;have HI1:Hid (((I+1:Nat):Int)<=2*n):=by show _<=_;omega
      have H1:Hid (Cd.s15 f b a=((X:Int),a1)):=h1;have HP1:Hid (a1<=8*b.size):=p1;clear f2 f3 hfX hN h1 hx p2 p1;by_cases hev:I % 2=0
      ·have m1:(I:Int).tmod 2=0:=by rw [Int.tmod_eq_emod_of_nonneg (by omega)];omega
       have m2:(I:Int) % 2=0:=by omega
       have HA2:Hid (Cd.At f b (I+1) a1 (q++[UInt8.ofNat (16*(X:Int)).toNat])):=HAt.out.even hev H1.out (by omega) (by omega);have HBq:Hid (bcs (q++[UInt8.ofNat (16*(X:Int)).toNat])=bcs q++[.int .u8 (16*(X:Int))]):=Zcs q _ (by omega) (by omega);have hle:g7+1<=(w4.alloc (.cells #[.int .u8 (16*(X:Int))] 5)).heap.size:=by have:=U7.1;simp;omega
       have HQ1:Hid (q.length+1<=1024):=by show _<=_;omega
       have hm:(16*(X:Int)) % 256=16*(X:Int):=by omega
       clear hev Hq HAt;go_wp2_with (at_builtin;go_must (refine wpList_append_own _ rfl _ _ 77 rfl (g7+1) 5 i0 (.int .u8 0) 1 1 U77 hi hz0 hz1 hz2 rfl (by decide) _ _ _ rfl (O4.alloc _) ⟨w4.heap.size,0,none⟩ 1 1 [.int .u8 (16*(X:Int))] rfl rfl (cell_one_new _ _ _) (Zdm _) (ZaJ (by omega)) (by omega) hle ?_;intro v' w6 hown' hgrow _))
       have hne:∀ g,g<=g7->some g ≠ Value.ownBlock u12:=fun g hg e=>by have:=(O4.lt g e.symm).1;omega
       have V2:=U2.grown (hne _ (nL hgw.out)) hgrow;have V7:=U7.grown (hne _ (nl _)) hgrow;have B6:Below w.heap.size w w6:=(B4.alloc B4.size _).grown hgrow (by have:=B4.size;simp;omega) (fun j hj=>by have:=(O4.lt j hj).1;have:=hgw.out;omega);refine ⟨⟨I+1,a1,q++[UInt8.ofNat (16*(X:Int)).toNat],HI1.out,by go_num,rfl,HP1.out,HA2,by have:=HQ1.out;simp;omega,?_,V2,V7,B6⟩,by simp [intOf];omega⟩;rw [HBq.out,List.length_append];exact hown'
      ·clear Hq;have hod:I % 2=1:=by omega
       have m1:(I:Int).tmod 2=1:=by rw [Int.tmod_eq_emod_of_nonneg (by omega)];omega
       have m2:(I:Int) % 2=1:=by omega
       obtain ⟨y,y0,y1,hy,HA2⟩:=HAt.out.odd hod H1.out (by omega) (by omega)
       obtain ⟨J,hJ⟩:∃ J,I / 2=J:=⟨_,rfl⟩
       have m3:(I:Int).tdiv 2=(J:Int):=by rw [Int.tdiv_eq_ediv_of_nonneg (by omega)];omega
       have m4:(I:Int) / 2=(J:Int):=by omega
       rw [hJ] at hy HA2;have hJq:J<q.length:=(List.getElem?_eq_some_iff.1 hy).1;obtain ⟨g,cap,hv,hg,hgl,hcell,hfz,hset⟩:=Zju O4 (by intro e;rw [e] at hJq;simp at hJq);subst hv;have hcJ:=hcell J _ hy;have hfJ:=hfz J;have hsJ:=hset J (UInt8.ofNat (16*y+(X:Int)).toNat) hJq;have e1:((UInt8.ofNat (16*y).toNat).toNat:Int)=16*y:=by simp;omega
       have e2:((UInt8.ofNat (16*y+(X:Int)).toNat).toNat:Int)=16*y+(X:Int):=by simp;omega
       rw [e1] at hcJ;rw [e2] at hsJ;have HA3:Hid (Cd.At f b (I+1) a1 (q.set J (UInt8.ofNat (16*y+(X:Int)).toNat))):=HA2;have hsl:(q.set J (UInt8.ofNat (16*y+(X:Int)).toNat)).length<=1024:=by rw [List.length_set];exact hql
       have HJ1:Hid (I / 2=J):=hJ;have hJ2:(J:Int)<(q.length:Int):=by omega
       have V2:=U2.setFar (q:=g) (by have:=hgw.out;omega) J (.int .u8 (16*y+(X:Int)));have V7:=U7.setFar (q:=g) (by omega) J (.int .u8 (16*y+(X:Int)));have B5:=B4.setCell (p:=⟨g,J,none⟩) (by have:=hgw.out;show _<=g;omega) (.int .u8 (16*y+(X:Int)));generalize q.set J (UInt8.ofNat (16*y+(X:Int)).toNat)=q2 at *;have hyX:0<=16*y+(X:Int)/\16*y+(X:Int)<256:=by omega
       clear hev hod HA2 hJ hcell hfz hset e1 e2 U2 U7 O4 B4 HAt hy;go_wp2_with fail
       refine ⟨⟨I+1,a1,q2,HI1.out,by go_num,rfl,HP1.out,HA3,hsl,hsJ,V2,V7,B5⟩,by simp [intOf];omega⟩
    ·have hIn:(I:Int)=2*n:=by omega
     have hk1:decide ((I:Int)<2*n)=false:=by simpa using hlt
     obtain ⟨m,hm⟩:∃ m:Nat,n=(m:Int):=⟨n.toNat,by omega⟩
     have hrk:=HAt.out.last (n:=n.toNat) (by omega);obtain ⟨k1,k2,k3⟩:=Cd.ZpT H0.out (n:=n) (by omega) hrk
     have hso:(⟨q.toArray⟩:ByteArray).size<=140737488355328:=by
      show q.toArray.size<=_;simp;omega
     have hwr:=fun w=>ZcP f ⟨q.toArray⟩ w hso
     rw [k1] at hwr;have hcv:=ZbQ (l:=q) ho;have h8:=Hr.out.symm.trans k3;have hbe:=Zdp (Cd.wrt f ⟨q.toArray⟩).1 b;generalize (Cd.wrt f ⟨q.toArray⟩).1=t at *;clear hIn hm hrk k1 k2 k3 hfr;go_wp2_with (refine wpList_load_row rfl 127 _ rfl w.heap.size rfl 127 (arr f) (0,0) _ T2.2 U127 rfl hin ?_)
     refine (hwr _).mono ?_;rintro e w4 ⟨rfl,G4⟩;have B4:=bch B3 G4 (nl _);have hcv2:=ZbQ (l:=q) (Zj ho G4);clear hcv hwr T2 T7 B3 ho G4;by_cases ht:t=b
     ·rw [if_pos ht] at h8;simp only [Prod.mk.injEq] at h8;obtain ⟨rfl,rfl⟩:=h8;rw [decide_eq_true ht] at hbe;clear ht;go_wp2_with fail
      go_ret2
      exact ⟨rfl,B4⟩
     ·rw [if_neg ht] at h8;simp only [Prod.mk.injEq] at h8;obtain ⟨rfl,rfl⟩:=h8;rw [decide_eq_false ht] at hbe;clear ht;go_wp2_with fail
      go_ret2
      exact ⟨rfl,B4⟩
theorem ZaV (f:Nat->Int) (b:ByteArray) (n:Int) (w:World) :
 Calls Tryz.prog 103 #[.agg (arr f),.string b,.int .i64 n] w fun e w'=>e=.returned (.tuple #[.string (Cd.rd f b n).1,.int .i64 (Cd.rd f b n).2])/\Below w.heap.size w w':=by
 have hck:=fun w=>Zan f w
 have hin:=Zb f;have R1:=RowAt.new w f;have HB:Below w.heap.size w (w.alloc (.cells (arr f) 127)):=(bR _ _).alloc (nl _) _;by_cases h0:Cd.chk f=0
 ·rw [h0] at hck;by_cases hn:n<0\/1024<n
  ·have h9:Cd.rd f b n=(⟨#[]⟩,3):=by rw [Cd.rd,if_neg (fun h=>h h0),if_pos hn]
   rw [h9];clear h9 h0;go_enter Tryz.func103,Tryz.ntmps103
   go_wp2_with (refine wpList_load_row rfl 127 _ rfl w.heap.size rfl 127 (arr f) (0,0) _ R1.2 U127 rfl hin ?_)
   refine (hck _).mono ?_;rintro e w1 ⟨rfl,G1⟩;have B1:=bch HB G1 (nl _);clear R1 HB G1 hck;go_wp2_with fail
   refine (ZbB n 0 1024 _ (by omega)).mono ?_;rintro e w' ⟨rfl,hw'⟩;subst hw';clear hn;go_wp2_with fail
   go_ret2
   exact ⟨rfl,B1⟩
  ·by_cases hb4:(b.size:Int)<=4*n
   ·exact ZiB f b n w h0 (by omega) (by omega) hb4
   ·have h9:Cd.rd f b n=(⟨#[]⟩,1):=Cd.ZsC h0 hn (by omega);rw [h9];have hn0:0<=n:=by omega
    have hn1:n<=1024:=by omega
    have db:decide (4*n<(b.size:Int))=true:=by simp;omega
    clear h9 h0 hn hb4;go_enter Tryz.func103,Tryz.ntmps103
    go_wp2_with (refine wpList_load_row rfl 127 _ rfl w.heap.size rfl 127 (arr f) (0,0) _ R1.2 U127 rfl hin ?_)
    refine (hck _).mono ?_;rintro e w1 ⟨rfl,G1⟩;have B1:=bch HB G1 (nl _);clear R1 HB G1 hck;go_wp2_with fail
    refine (ZU n 0 1024 _ hn0 hn1).mono ?_;rintro e w' ⟨rfl,hw'⟩;subst hw';go_wp2_with fail
    go_ret2
    exact ⟨rfl,B1⟩
 ·have h9:Cd.rd f b n=(⟨#[]⟩,Cd.chk f):=by rw [Cd.rd,if_pos h0]
  rw [h9];generalize Cd.chk f=E at *;have d0:(E != 0)=true:=by simpa using h0
  clear h9 h0;go_enter Tryz.func103,Tryz.ntmps103
  go_wp2_with (refine wpList_load_row rfl 127 _ rfl w.heap.size rfl 127 (arr f) (0,0) _ R1.2 U127 rfl hin ?_)
  refine (hck _).mono ?_;rintro e w1 ⟨rfl,G1⟩;have B1:=bch HB G1 (nl _);clear R1 HB G1 hck;go_wp2_with fail
  go_ret2
  exact ⟨rfl,B1⟩
namespace Bk
def jnK (f:Nat->Int) (k:Nat):List UInt8:=(List.range k).map fun j=>UInt8.ofNat (f (2*j)*16+f (2*j+1)).toNat
def jn (f:Nat->Int):List UInt8:=jnK f 8
theorem Zje (f:Nat->Int) (k:Nat):jnK f (k+1)=jnK f k++[UInt8.ofNat (f (2*k)*16+f (2*k+1)).toNat]:=by
 unfold jnK;rw [List.range_succ,List.map_append];rfl
theorem ZcY (f:Nat->Int) (k:Nat):(jnK f k).length=k:=by simp [jnK]
end Bk
theorem ZoN {o:Oper} {a:Act} {w:World} {K:Act->World->Prop} {Q:Exit->Act->World->Prop} (s x:Operand)
 (ho:o.op=.call { callee:=.builtin .append,args:=#[s,x],argTypes:=#[77,77] })
 (base:Nat) (v:Value) (l:List UInt8) (hs:a.eval s=v) (hown:w.ownsRow base 5 1 v l.length (bcs l)) (n:Int) (hx:a.eval x=.slice (some ⟨w.heap.size,0,none⟩) 1 1)
 (hl:l.length<=100000) (hbase:base<=w.heap.size) (h0:0<=n) (h1:n<256)
 (h:∀ v' w',w'.ownsRow base 5 1 v' (l++[UInt8.ofNat n.toNat]).length (bcs (l++[UInt8.ofNat n.toNat]))->(w.alloc (.cells #[.int .u8 n] 5)).grownBy w' v.ownBlock->K (a.put o.dst v') w'):o.wp Tryz.prog a (w.alloc (.cells #[.int .u8 n] 5)) K Q:=by
 obtain ⟨i0,hi,hz0,hz1,hz2⟩:=info_parts Zca;refine wp_append_own _ s x 77 ho base 5 i0 (.int .u8 0) 1 1 U77 hi hz0 hz1 hz2 rfl (by decide) v l.length (bcs l) hs (hown.alloc _) ⟨w.heap.size,0,none⟩ 1 1 [.int .u8 n] hx rfl (cell_one_new _ _ _) (Zdm _) (ZaJ (by omega)) (by omega) (by simp;omega) ?_;intro v' w' h2 h3 _;refine h v' w' ?_ h3;rw [Zcs l n h0 h1,List.length_append];exact h2
theorem Zin {md:Region.Mode} {ops:Array Oper} {Q:Exit->Act->World->Prop} {S:World->Prop} {i j:Nat} {o p:Oper} {fuel:Nat} {listed:Array Bool} {a:Act} {w:World} {n:Int}
 (hr:Region.ready md ops listed=[i]) (hr2:Region.ready md ops (listed.setIfInBounds i true)=[j]) (hr3:Region.ready md ops ((listed.setIfInBounds i true).setIfInBounds j true)=[]) (ho:ops[i]?=some o) (hp:ops[j]?=some p) (hg:o.guard=none) (hgp:p.guard=none)
 (s x y:Operand) (hop:o.op=.call { callee:=.builtin .append,args:=#[s,x],argTypes:=#[77,77] }) (hpo:p.op=.assign y)
 (base:Nat) (v:Value) (l:List UInt8) (hs:a.eval s=v) (hown:w.ownsRow base 5 1 v l.length (bcs l)) (hx:a.eval x=.slice (some ⟨w.heap.size,0,none⟩) 1 1)
 (hl:l.length<=100000) (hbase:base<=w.heap.size) (h0:0<=n) (h1:n<256) (hy:∀ v',(a.put o.dst v').eval y=v')
 (h:∀ v' w',w'.ownsRow base 5 1 v' (l++[UInt8.ofNat n.toNat]).length (bcs (l++[UInt8.ofNat n.toNat]))->(w.alloc (.cells #[.int .u8 n] 5)).grownBy w' v.ownBlock->S w'/\Q .normal ((a.put o.dst v').put p.dst v') w'):wpAnyH Tryz.prog md ops Q S (fuel+2) listed a (w.alloc (.cells #[.int .u8 n] 5)) :=
 wpAnyH_all (fuel:=fuel+1) hr (by simp) (fun k hk=>by
  obtain rfl:k=i:=by simpa using hk
  refine wpOp_step ho (fun K hK=>Zed hg ?_);refine ZoN s x hop base v l hs hown n hx hl hbase h0 h1 (fun v' w' h2 h3=>hK _ _ ?_);obtain ⟨h4,h5⟩:=h v' w' h2 h3;refine ⟨h4,ZgJ (i:=j) (o:=p) (v:=v') hr2 hr3 hp (Or.inl ⟨by simp [Region.wanted,hgp],fun w _=>?_⟩) h4 h5⟩;unfold execOp
  simp only [hpo,hy,Sem.run_pure])
theorem Zli (f:Nat->Int) (w:World) (hR:Cd.InR f 15 16) :
 Calls Tryz.prog 123 #[.agg (arr f)] w fun e w'=>e=.returned (.string ⟨(Bk.jn f).toArray⟩)/\Below w.heap.size w w':=by
 have R1:=RowAt.new w f;have B1:Below w.heap.size w (w.alloc (.cells (arr f) 127)):=(bR _ _).alloc (nl _) _;have HR:Hid (Cd.InR f 15 16):=hR;clear hR;go_enter Tryz.func123,Tryz.ntmps123
 go_wp2_with fail
 generalize w.alloc (.cells (arr f) 127)=w0 at *;go_loopw [3,5] (fun v i wr=>∃ k:Nat,k<=8/\i=.int .i64 k/\wr.ownsRow (w.heap.size+1) 5 1 v (Bk.jnK f k).length (bcs (Bk.jnK f k))/\RowAt wr w.heap.size f/\Below w.heap.size w wr) (fun _ i _=>8 - (intOf i).toNat)
 case atStart=>exact ⟨0,by omega,rfl,World.ownsRow_nil _ _ _ _,R1,B1⟩
 case round =>
  clear R1 B1;obtain ⟨k,hk,rfl,ho,R1,B1⟩:=hrel;by_cases hlt:k<8
  ·have hk1:decide ((k:Int)<8)=true:=by simp;omega
   have hk2:decide (k<8)=true:=by simp;omega
   obtain ⟨K2,hK2e⟩:∃ K2,2*k=K2:=⟨_,rfl⟩
   obtain ⟨K3,hK3e⟩:∃ K3,2*k+1=K3:=⟨_,rfl⟩
   have hK2:K2<16:=by omega
   have hK3:K3<16:=by omega
   have m2:2*(k:Int)=(K2:Int):=by omega
   have m3:(K2:Int)+1=(K3:Int):=by omega
   have hK2i:(K2:Int)<16:=by omega
   have hK3i:(K3:Int)<16:=by omega
   have HN:=Bk.Zje f k;rw [hK3e,hK2e] at HN;have HNN:Hid (Bk.jnK f (k+1)=Bk.jnK f k++[UInt8.ofNat (f K2*16+f K3).toNat]):=HN;have hx:=HR.out K2 hK2;have hy:=HR.out K3 hK3;have hlen:(Bk.jnK f k).length<=100000:=by rw [Bk.ZcY];omega
   have hcs:∀ w',RowAt w' w.heap.size f->w'.cell? ⟨w.heap.size,K2,none⟩=some (.int .i64 (f K2))/\w'.cell? ⟨w.heap.size,K3,none⟩=some (.int .i64 (f K3)):=fun w' h=>⟨h.cell K2 hK2,h.cell K3 hK3⟩
   have HC:Hid (∀ w',RowAt w' w.heap.size f->w'.cell? ⟨w.heap.size,K2,none⟩=some (.int .i64 (f K2))/\w'.cell? ⟨w.heap.size,K3,none⟩=some (.int .i64 (f K3))):=hcs;clear HN hcs hK2e hK3e
   obtain ⟨x,hxe⟩:∃ x,f K2=x:=⟨_,rfl⟩
   obtain ⟨y,hye⟩:∃ y,f K3=y:=⟨_,rfl⟩
   rw [hxe,hye] at HNN HC;rw [hxe] at hx;rw [hye] at hy;clear hxe hye;obtain ⟨hx0,hx1⟩:=hx;obtain ⟨hy0,hy1⟩:=hy;have w1:IntKind.i64.wrap (x*16)=x*16:=IntWalk.i64_in _ ⟨by omega,by omega⟩;have w2:IntKind.i64.wrap (x*16+y)=x*16+y:=IntWalk.i64_in _ ⟨by omega,by omega⟩;have w3:IntKind.u8.wrap (x*16+y)=x*16+y:=IntWalk.u8_in _ ⟨by omega,by omega⟩;have w4:IntKind.i64.wrap (K2:Int)=(K2:Int):=IntWalk.i64_in _ ⟨by omega,by omega⟩;have w5:IntKind.i64.wrap (K3:Int)=(K3:Int):=IntWalk.i64_in _ ⟨by omega,by omega⟩;go_wp2_with fail
   refine wp_region_held_drew (S:=fun w'=>RowAt w' w.heap.size f/\True) (by kernel_rfl) ⟨R1,trivial⟩ (fun hS=>?_);refine wK (i:=0) (fuel:=15) (v:=u3) rfl (by kernel_rfl) (by kernel_rfl) (by kernel_rfl) (fun _ _ _ h=>h) (Or.inl ⟨by rfl,fun w hw'=>by go_simp⟩) hS ?_;refine wK (i:=1) (fuel:=14) (v:=.int .i64 (k:Int)) rfl (by kernel_rfl) (by kernel_rfl) (by kernel_rfl) (fun _ _ _ h=>h) (Or.inl ⟨by rfl,fun w hw'=>by go_simp⟩) hS ?_;refine wK (i:=2) (fuel:=13) (v:=.int .i64 (K2:Int)) rfl (by kernel_rfl) (by kernel_rfl) (by kernel_rfl) (fun _ _ _ h=>h) (Or.inl ⟨by rfl,fun w hw'=>by go_simp⟩) hS ?_;refine wK (i:=3) (fuel:=12) (v:=.pointer (some ⟨w.heap.size,K2,none⟩)) rfl (by kernel_rfl) (by kernel_rfl) (by kernel_rfl) (fun _ _ _ h=>h) (Or.inl ⟨by rfl,fun w hw'=>by go_simp⟩) hS ?_;refine wK (i:=4) (fuel:=11) (v:=.int .i64 x) rfl (by kernel_rfl) (by kernel_rfl) (by kernel_rfl) (fun _ _ _ h=>h) (Or.inl ⟨by rfl,fun w hw'=>by have hc9:=(HC.out _ hw'.1).1;go_simp⟩) hS ?_;refine wK (i:=5) (fuel:=10) (v:=.int .i64 (x*16)) rfl (by kernel_rfl) (by kernel_rfl) (by kernel_rfl) (fun _ _ _ h=>h) (Or.inl ⟨by rfl,fun w hw'=>by go_simp⟩) hS ?_;refine wK (i:=6) (fuel:=9) (v:=.int .i64 (k:Int)) rfl (by kernel_rfl) (by kernel_rfl) (by kernel_rfl) (fun _ _ _ h=>h) (Or.inl ⟨by rfl,fun w hw'=>by go_simp⟩) hS ?_;refine wK (i:=7) (fuel:=8) (v:=.int .i64 (K2:Int)) rfl (by kernel_rfl) (by kernel_rfl) (by kernel_rfl) (fun _ _ _ h=>h) (Or.inl ⟨by rfl,fun w hw'=>by go_simp⟩) hS ?_;refine wK (i:=8) (fuel:=7) (v:=.int .i64 (K3:Int)) rfl (by kernel_rfl) (by kernel_rfl) (by kernel_rfl) (fun _ _ _ h=>h) (Or.inl ⟨by rfl,fun w hw'=>by go_simp⟩) hS ?_;refine wK (i:=9) (fuel:=6) (v:=.pointer (some ⟨w.heap.size,K3,none⟩)) rfl (by kernel_rfl) (by kernel_rfl) (by kernel_rfl) (fun _ _ _ h=>h) (Or.inl ⟨by rfl,fun w hw'=>by go_simp⟩) hS ?_;refine wK (i:=10) (fuel:=5) (v:=.int .i64 y) rfl (by kernel_rfl) (by kernel_rfl) (by kernel_rfl) (fun _ _ _ h=>h) (Or.inl ⟨by rfl,fun w hw'=>by have hc9:=(HC.out _ hw'.1).2;go_simp⟩) hS ?_;refine wK (i:=11) (fuel:=4) (v:=.int .i64 (x*16+y)) rfl (by kernel_rfl) (by kernel_rfl) (by kernel_rfl) (fun _ _ _ h=>h) (Or.inl ⟨by rfl,fun w hw'=>by go_simp⟩) hS ?_;refine wK (i:=12) (fuel:=3) (v:=.int .u8 (x*16+y)) rfl (by kernel_rfl) (by kernel_rfl) (by kernel_rfl) (fun _ _ _ h=>h) (Or.inl ⟨by rfl,fun w hw'=>by go_simp⟩) hS ?_;refine wY (rs:=[13]) (fuel:=2) (by kernel_rfl) (by simp) ?_;refine rC rfl (fun K hK=>?_) rN;go_simp
   have hRA:RowAt (wr.alloc (.cells #[.int .u8 (x*16+y)] 5)).drew w.heap.size f:=R1.alloc _;refine hK.out _ _ ⟨hRA,trivial⟩ (fun _=>?_);clear hK hRA;have hne:∀ q,q<=w.heap.size->some q ≠ Value.ownBlock u3:=fun q hq e=>by have:=(ho.lt q e.symm).1;omega
   refine Zin (w:=wr.drew) (i:=14) (j:=15) (fuel:=0) (by kernel_rfl) (by kernel_rfl) (by kernel_rfl) rfl rfl rfl rfl _ _ _ rfl rfl (w.heap.size+1) u3 (Bk.jnK f k) rfl ho rfl hlen (by have:=R1.1;show _<=wr.heap.size;omega) (by omega) (by omega) (fun v'=>rfl) ?_;intro v' w6 hown' hgrow;have V1:RowAt w6 w.heap.size f:=(show RowAt wr.drew w.heap.size f from R1).grown (hne _ (nl _)) hgrow;refine ⟨⟨V1,trivial⟩,?_⟩;have B6:Below w.heap.size w w6:=((show Below w.heap.size w wr.drew from B1.drew).alloc B1.size _).grown hgrow (by have:=B1.size;show _<=(wr.alloc _).heap.size;simp;omega) (fun j hj=>by have:=(ho.lt j hj).1;omega);rw [<-HNN.out] at hown';go_wp2_with fail
   exact ⟨⟨k+1,by omega,by go_num,hown',V1,B6⟩,by simp [intOf];omega⟩
  ·obtain rfl:k=8:=by omega
   have hk1:decide ((8:Int)<8)=false:=by decide
   have hcv:=ZbQ (l:=Bk.jnK f 8) ho;go_wp2_with fail
   go_ret
   exact ⟨rfl,B1⟩
set_option linter.unusedVariables false
theorem ZjW (f:Nat->Int) (s:ByteArray):(Cd.wrt f s).1.size<=140737488355328:=by
 have z:(⟨#[]⟩:ByteArray).size<=140737488355328:=by decide
 unfold Cd.wrt;by_cases h:Cd.chk f=0
 ·rw [if_neg (fun h9=>h9 h)];by_cases h1:1024<s.size
  ·rw [if_pos h1];exact z
  ·rw [if_neg h1]
   cases hq:Cd.wrK f s s.size with
   | none=>exact z
   | some bs =>
    simp only;rw [Cd.ZfA];have:=Cd.ZdT (Cd.Ze h).1 _ bs hq;omega
 ·rw [if_pos h];exact z
theorem ZsE (f:Nat->Int) (b:ByteArray) (n:Int) (h:(Cd.rd f b n).2=0):(Cd.rd f b n).1.size<=140737488355328:=by
 obtain ⟨_,h2⟩:=Cd.Zth h;by_cases hn:n<0\/1024<n
 ·by_cases hc:Cd.chk f=0
  ·rw [Cd.rd,if_neg (fun h=>h hc),if_pos hn];exact (by decide:(⟨#[]⟩:ByteArray).size<=140737488355328)
  ·rw [Cd.rd,if_pos hc];exact (by decide:(⟨#[]⟩:ByteArray).size<=140737488355328)
 ·omega
end Go.Proofs.YtbjbjbpgmojcbacGreat
