/- A part of the proof: what it leans on. -/
import Derived.Deep.RegionLaw
import Derived.Test.YtbjbjbpgmojcbacGreatLk13
import Derived.Test.YtbjbjbpgmojcbacGreatLk15
set_option maxRecDepth 4000
set_option maxHeartbeats 4000000
namespace Go.Proofs.YtbjbjbpgmojcbacGreat
open Go.RowKit
namespace Bk
def ptK (s:ByteArray) (k:Nat):Nat->Int:=fun i=>if i<2*k then (if i % 2=0 then (Cd.at8 s (i / 2) / 16:Nat) else (Cd.at8 s (i / 2) % 16:Nat)) else 0
def pt (s:ByteArray):Nat->Int:=ptK s 8
theorem ZcG (s:ByteArray) (k:Nat) (i:Nat):upd (upd (ptK s k) (2*k) (Cd.at8 s k / 16:Nat)) (2*k+1) (Cd.at8 s k % 16:Nat) i=ptK s (k+1) i:=by
 unfold upd ptK;by_cases h1:i=2*k+1
 ·subst h1;rw [if_pos rfl,if_pos (by omega),if_neg (by omega),show (2*k+1) / 2=k by omega]
 ·rw [if_neg h1];by_cases h2:i=2*k
  ·subst h2;rw [if_pos rfl,if_pos (by omega),if_pos (by omega),show 2*k / 2=k by omega]
  ·rw [if_neg h2];by_cases h3:i<2*k
   ·rw [if_pos h3,if_pos (show i<2*(k+1) by omega)]
   ·rw [if_neg h3,if_neg (show ¬ i<2*(k+1) by omega)]
def whl (s:ByteArray):ByteArray × Int:=if 512<s.size then (⟨#[]⟩,1) else (s,0)
def ply (dict s:ByteArray):ByteArray × Int:=match Zz dict s with | none=>(⟨#[]⟩,1) | some l=>(Zas dict l,0)
def enc (s:ByteArray):ByteArray:=(⟨(jn (Cd.bld (hv s)).1).toArray⟩:ByteArray)++⟨(Nm.nb s.size).toArray⟩++(Cd.wrt (Cd.bld (hv s)).1 s).1
theorem ZnG {c:Nat->Int} (h:Cd.InR c 2048 16):Cd.InR (Cd.bld c).1 15 16:=by
 by_cases h0:(Cd.bld c).2=0
 ·exact (Cd.Ze (Cd.ZjM c h0).1).1
 ·have e:(Cd.bld c).1=fun _=>0:=by
   unfold Cd.bld at h0 |-
   rw [if_neg (fun h9=>h9 h)] at h0 |-
   by_cases h1:(Cd.lt2 c 16).1=-1
   ·rw [if_pos h1]
   ·rw [if_neg h1] at h0;by_cases h2:(Cd.lt2 c 16).2=-1
    ·rw [if_pos h2] at h0;exact absurd rfl h0
    ·rw [if_neg h2] at h0;exact absurd rfl h0
  rw [e];intro i _;exact ⟨Int.le_refl _,by show (0:Int)<=15;decide⟩
end Bk
theorem ZnE (s:ByteArray) (w:World) (hs:s.size<=140737488355328) :
 Calls Tryz.prog 125 #[.string s] w fun e w'=>e=.returned (.tuple #[.string (Bk.whl s).1,.int .i64 (Bk.whl s).2])/\Below w.heap.size w w':=by
 by_cases h:512<s.size
 ·have e:Bk.whl s=(⟨#[]⟩,1):=if_pos h;rw [e];have d1:decide (512<(s.size:Int))=true:=by simp;omega
  have h':512<(s.size:Int):=by omega
  clear e h;go_enter Tryz.func125,Tryz.ntmps125
  go_wp2_with fail
  go_ret2
  exact ⟨rfl,bR _ _⟩
 ·have e:Bk.whl s=(s,0):=if_neg h;rw [e];have d1:decide (512<(s.size:Int))=false:=by simp;omega
  have hc:=fun w=>ZM s w (by omega)
  clear e h;go_enter Tryz.func125,Tryz.ntmps125
  go_wp2_with fail
  refine (hc _).mono ?_;rintro e w1 ⟨rfl,G⟩;go_wp2_with fail
  go_ret2
  exact ⟨rfl,G⟩
theorem ZcC (dict s:ByteArray) (w:World) (hd:dict.size<=256) :
 Calls Tryz.prog 126 #[.string dict,.string s] w fun e w'=>e=.returned (.tuple #[.string (Bk.ply dict s).1,.int .i64 (Bk.ply dict s).2])/\Below w.heap.size w w':=by
 have c1:=fun w=>Zos dict s w hd (fun h=>ZeT hd h)
 cases hq:Zz dict s with
 | none =>
  have e:Bk.ply dict s=(⟨#[]⟩,1):=by rw [Bk.ply,hq]
  rw [e]
  have c2:∀ w,Calls Tryz.prog 150 #[.string dict,.string s] w fun e w'=>Below w.heap.size w w'/\e=.returned (.tuple #[.slice none 0 0,.int .i64 1]):=fun w=>(c1 w).mono fun e w' h=>by
   rcases h with ⟨h1,⟨_,h2⟩ | ⟨l,a,c,h2,_⟩⟩
   ·exact ⟨h1,h2⟩
   ·rw [hq] at h2;cases h2
  clear e hq c1;go_enter Tryz.func126,Tryz.ntmps126
  go_wp2_with fail
  refine (c2 _).mono ?_;rintro e w1 ⟨G,rfl⟩;go_wp2_with fail
  go_ret2
  exact ⟨rfl,G⟩
 | some l =>
  have e:Bk.ply dict s=(Zas dict l,0):=by rw [Bk.ply,hq]
  rw [e]
  have c2:∀ w,Calls Tryz.prog 150 #[.string dict,.string s] w fun e w'=>Below w.heap.size w w'/\∃ ad cap,e=.returned (.tuple #[.slice ad l.length cap,.int .i64 0])/\SlAt w' ad l:=fun w=>(c1 w).mono fun e w' h=>by
   rcases h with ⟨h1,⟨h2,_⟩ | ⟨k,a,c,h2,h3,h4⟩⟩
   ·rw [hq] at h2;cases h2
   ·rw [hq] at h2;cases h2;exact ⟨h1,a,c,h3,h4⟩
  have r1:=ZjO hd hq;have c3:=fun ad cap w hl=>Zoo dict ad cap l w hl (Zdd (Zbo r1.2))
  rw [r1.2] at c3;generalize Zas dict l=X at *;clear e hq c1 r1;go_enter Tryz.func126,Tryz.ntmps126
  go_wp2_with fail
  refine (c2 _).mono ?_;rintro e w1 ⟨G1,ad,cap,rfl,S1⟩;go_wp2_with fail
  refine (c3 _ _ _ S1).mono ?_;rintro e w2 ⟨rfl,G2⟩;go_wp2_with fail
  go_ret2
  exact ⟨rfl,bch G1 G2 (nl _)⟩
theorem Zkt (s:ByteArray) (w:World) (hs:s.size=8) :
 Calls Tryz.prog 153 #[.string s] w fun e w'=>e=.returned (.agg (arr (Bk.pt s)))/\Below w.heap.size w w':=by
 obtain ⟨R2,R3⟩:=RowAt.two w (fun _=>0) (fun _=>0);have HB:=Zjv w (.cells (arr fun _=>0) 127) (.cells (arr fun _=>0) 127);rw [<-Zk] at R2 R3 HB;have Hs:Hid (s.size=8):=hs
 obtain ⟨r,hr⟩:∃ r,Bk.pt s=r:=⟨_,rfl⟩
 rw [hr];have Hr:Hid (Bk.ptK s 8=r):=hr;clear hr hs;go_enter Tryz.func153,Tryz.ntmps153
 go_wp2_with fail
 rw [Zk] at R2 R3 HB;rw [Zk];generalize (w.alloc (.cells (arr fun _=>0) 127)).alloc (.cells (arr fun _=>0) 127)=w0 at *
 obtain ⟨g1,hg1⟩:∃ g1,g1=w.heap.size:=⟨_,rfl⟩
 have hq:Hid (g1<w.heap.size+1/\w.heap.size=g1):=by show _/\_;omega
 generalize w.heap.size+1=g3 at *;clear hg1;have R3':=R3.congr (f':=Bk.ptK s 0) (fun i _=>by simp [Bk.ptK]);go_loopw [5] (fun i wr=>∃ k:Nat,k<=8/\i=.int .i64 k/\RowAt wr w.heap.size (fun _=>0)/\RowAt wr g3 (Bk.ptK s k)/\Below w.heap.size w wr) (fun i _=>8 - (intOf i).toNat)
 case atStart=>exact ⟨0,by omega,rfl,R2,R3',HB⟩
 case round =>
  clear R2 R3 R3' HB;obtain ⟨k,hk,rfl,R2,R3,HB⟩:=hrel;by_cases hlt:k<8
  ·have hk1:decide ((k:Int)<8)=true:=by simp;omega
   have hk2:decide (k<8)=true:=by simp;omega
   have hks:k<s.size:=by have:=Hs.out;omega
   have hk3:(k:Int)<(s.size:Int):=by omega
   obtain ⟨x,hx⟩:∃ x:Int,(s[k].toNat:Int)=x:=⟨_,rfl⟩
   have hA:Cd.at8 s k=s[k].toNat:=by unfold Cd.at8;rw [Nm.ZL s k hks];rfl
   have hA2:=Cd.ZaC s k;have hx0:0<=x:=by omega
   have hx1:x<=255:=by omega
   obtain ⟨H,hH⟩:∃ H,Cd.at8 s k / 16=H:=⟨_,rfl⟩
   obtain ⟨L,hL⟩:∃ L,Cd.at8 s k % 16=L:=⟨_,rfl⟩
   have e1:x / 16=(H:Int):=by omega
   have e2:x % 16=(L:Int):=by omega
   have e3:x.tdiv 16=(H:Int):=by rw [Int.tdiv_eq_ediv_of_nonneg hx0];exact e1
   have e4:x.tmod 16=(L:Int):=by rw [Int.tmod_eq_emod_of_nonneg hx0];exact e2
   have hH2:H<16:=by omega
   have hL2:L<16:=by omega
   obtain ⟨K2,hK2e⟩:∃ K2,2*k=K2:=⟨_,rfl⟩
   obtain ⟨K3,hK3e⟩:∃ K3,2*k+1=K3:=⟨_,rfl⟩
   have hK2:K2<16:=by omega
   have hK3:K3<16:=by omega
   have m2:2*(k:Int)=(K2:Int):=by omega
   have m3:(K2:Int)+1=(K3:Int):=by omega
   have hK2i:(K2:Int)<16:=by omega
   have hK3i:(K3:Int)<16:=by omega
   have c1:=R3.cell K2 hK2;have f1:=R3.frozen K2;have S3:=R3.set K2 (H:Int);have S2:=R2.setFar (q:=g3) (by have:=hq.out;omega) K2 (.int .i64 (H:Int));have SB:=HB.setCell (p:=⟨g3,K2,none⟩) (by have:=hq.out;show _<=g3;omega) (.int .i64 (H:Int));have c2:=S3.cell K3 hK3;have f2:=S3.frozen K3;have T3:=(S3.set K3 (L:Int)).congr (f':=Bk.ptK s (k+1)) (fun i _=>by rw [<-hK2e,<-hK3e,<-hH,<-hL];exact Bk.ZcG s k i);have T2:=S2.setFar (q:=g3) (by have:=hq.out;omega) K3 (.int .i64 (L:Int));have TB:=SB.setCell (p:=⟨g3,K3,none⟩) (by have:=hq.out;show _<=g3;omega) (.int .i64 (L:Int));clear hA hA2 hH hL e1 e2 hK2e hK3e R2 R3 HB S2 S3 SB;go_wp2_with fail
   go_roundw
   case rel=>exact ⟨k+1,by omega,by go_num,T2,T3,TB⟩
   case measure=>simp [intOf];omega
  ·obtain rfl:k=8:=by omega
   rw [Hr.out] at R3;have hi1:=Zb r;go_wp2_with (first | refine wpList_load_row rfl 127 _ rfl g3 rfl 127 (arr r) (0,0) _ R3.2 U127 rfl hi1 ?_ | refine wpList_store_row rfl 127 _ _ rfl w.heap.size (arr r) rfl rfl 127 _ R2.2 hi1 (by rw [Zh,Zh]) (ZV _) ?_)
   have U2:=R2.setRow r;exact bodyPost_ret (v:=.agg (arr r)) (results_cell_row Tryz.results153 _ _ w.heap.size 127 _ (0,0) _ rfl U2.2 U127 rfl hi1) rfl ⟨rfl,Zn HB (nl _) _⟩
theorem Zlb (s:ByteArray) (w:World) (hs:s.size<=1024) :
 Calls Tryz.prog 90 #[.string s] w fun e w'=>e=.returned (.string (Bk.enc s))/\Below w.heap.size w w':=by
 have c1:=fun w=>Zks s w hs
 have c2:=fun w=>ZfB (Bk.hv s) w
 have c3:=fun w=>Zgd (s.size:Int) w (by omega) (by omega)
 rw [Int.toNat_natCast] at c3;have c4:=fun w=>ZfD (Cd.bld (Bk.hv s)).1 s w (by omega)
 have c5:=fun w=>Zli (Cd.bld (Bk.hv s)).1 w (Bk.ZnG (Bk.ZnQ s hs))
 have HE:Hid ((⟨(Bk.jn (Cd.bld (Bk.hv s)).1).toArray⟩:ByteArray)++⟨(Nm.nb s.size).toArray⟩++(Cd.wrt (Cd.bld (Bk.hv s)).1 s).1=Bk.enc s):=rfl
 have z1:(⟨(Bk.jn (Cd.bld (Bk.hv s)).1).toArray⟩:ByteArray).size<=8:=by
  show (Bk.jn _).toArray.size<=_;simp [Bk.jn,Bk.ZcY]
 have z2:(⟨(Nm.nb s.size).toArray⟩:ByteArray).size<=5:=by
  have:=Nm.ZD s.size (by omega);show (Nm.nb s.size).toArray.size<=_;simpa using this
 have z3:=ZjW (Cd.bld (Bk.hv s)).1 s;have hiL:=Zb (Cd.bld (Bk.hv s)).1;have hb0:(s.size:Int)<=1024:=by omega
 generalize Bk.enc s=R at *;generalize (Cd.wrt (Cd.bld (Bk.hv s)).1 s).1=W at *;generalize (Cd.wrt (Cd.bld (Bk.hv s)).1 s).2=We at *;generalize (⟨(Bk.jn (Cd.bld (Bk.hv s)).1).toArray⟩:ByteArray)=J at *;generalize (⟨(Nm.nb s.size).toArray⟩:ByteArray)=N at *;generalize (Cd.bld (Bk.hv s)).1=L at *;generalize (Cd.bld (Bk.hv s)).2=E at *;generalize Bk.hv s=C at *;go_enter Tryz.func90,Tryz.ntmps90
 go_wp2_with fail
 refine (c1 _).mono ?_;rintro e w1 ⟨rfl,G1⟩;go_wp2_with fail
 refine (c2 _).mono ?_;rintro e w2 ⟨rfl,G2⟩;have B2:=bch G1 G2 (nl _);have L3:=RowAt.new w2 L;have B3:Below w.heap.size w (w2.alloc (.cells (arr L) 127)):=B2.alloc B2.size _;clear G1 G2 B2 c1 c2;go_wp2_with (refine wpList_store_row rfl 127 _ _ rfl w2.heap.size (arr L) rfl rfl 127 _ (heap_alloc_last w2 _) hiL rfl (ZV _) ?_;rw [World.setRow_alloc_new])
 generalize w2.alloc (.cells (arr L) 127)=wa at *;generalize w2.heap.size=gl at *;refine (c3 _).mono ?_;rintro e w3 ⟨rfl,G3⟩;have L4:=L3.below G3;have B4:=bch B3 G3 (nl _);clear L3 B3 G3 c3;go_wp2_with (refine wpList_load_row rfl 127 _ rfl gl rfl 127 (arr L) (0,0) _ L4.2 U127 rfl hiL ?_)
 refine (c4 _).mono ?_;rintro e w4 ⟨rfl,G4⟩;have L5:=L4.below G4;have B5:=bch B4 G4 (nl _);clear L4 B4 G4 c4;go_wp2_with (refine wpList_load_row rfl 127 _ rfl gl rfl 127 (arr L) (0,0) _ L5.2 U127 rfl hiL ?_)
 refine (c5 _).mono ?_;rintro e w5 ⟨rfl,G5⟩;have B6:=bch B5 G5 (nl _);clear L5 B5 G5 c5;go_wp2_with fail
 go_ret
 exact ⟨congrArg (fun s=>Ending.returned (Value.string s)) HE.out,B6⟩
namespace Bk
def dec (s:ByteArray):ByteArray × Int :=
 if s.size<8 then (⟨#[]⟩,1) else match Nm.Zm (s.extract 8 s.size).data.toList with
  | none=>(⟨#[]⟩,1)
  | some (n,k)=>if (Cd.rd (pt (s.extract 0 8)) ((s.extract 8 s.size).extract k (s.extract 8 s.size).size) (n:Nat)).2=0 then ((Cd.rd (pt (s.extract 0 8)) ((s.extract 8 s.size).extract k (s.extract 8 s.size).size) (n:Nat)).1,0) else (⟨#[]⟩,1)
theorem Zjr {s:ByteArray} (h:¬ s.size<8) (hq:Nm.Zm (s.extract 8 s.size).data.toList=none):dec s=(⟨#[]⟩,1):=by rw [dec,if_neg h,hq]
theorem ZfF {s:ByteArray} {n k:Nat} (h:¬ s.size<8) (hq:Nm.Zm (s.extract 8 s.size).data.toList=some (n,k)):dec s=if (Cd.rd (pt (s.extract 0 8)) ((s.extract 8 s.size).extract k (s.extract 8 s.size).size) (n:Nat)).2=0 then ((Cd.rd (pt (s.extract 0 8)) ((s.extract 8 s.size).extract k (s.extract 8 s.size).size) (n:Nat)).1,0) else (⟨#[]⟩,1):=by rw [dec,if_neg h,hq]
end Bk
theorem Zp (s:ByteArray) (a b:Nat):(s.extract a b).size=min b s.size - a:=by simp [ByteArray.size_extract]
theorem Zlj (s:ByteArray) (w:World) (hs:s.size<=140737488355328) :
 Calls Tryz.prog 127 #[.string s] w fun e w'=>e=.returned (.tuple #[.string (Bk.dec s).1,.int .i64 (Bk.dec s).2])/\Below w.heap.size w w':=by
 by_cases h8:s.size<8
 ·have e:Bk.dec s=(⟨#[]⟩,1):=if_pos h8;rw [e];have d1:decide ((s.size:Int)<8)=true:=by simp;omega
  have h':(s.size:Int)<8:=by omega
  clear e h8;go_enter Tryz.func127,Tryz.ntmps127
  go_wp2_with fail
  go_ret2
  exact ⟨rfl,bR _ _⟩
 ·have d1:decide ((s.size:Int)<8)=false:=by simp;omega
  have h8':(8:Int)<=(s.size:Int):=by omega
  have h8n:8<=s.size:=by omega
  have z8:=Zp s 8 s.size;have z0:=Zp s 0 8
  cases hq:Nm.Zm (s.extract 8 s.size).data.toList with
  | none =>
   rw [Bk.Zjr h8 hq];have c1:=fun w=>Zgg (s.extract 8 s.size) w (by omega) hq
   clear hq h8 z8 z0
   have et:∃ t,s.extract 8 s.size=t:=⟨_,rfl⟩
   obtain ⟨t,et⟩:=et;rw [et] at c1;go_enter Tryz.func127,Tryz.ntmps127
   go_wp2_with fail
   refine (c1 _).mono ?_;rintro e w1 ⟨rfl,G⟩;go_wp2_with fail
   go_ret2
   exact ⟨rfl,G⟩
  | some x =>
   obtain ⟨n,k⟩:=x;have hD:=Bk.ZfF h8 hq;have c1:=fun w=>Zbt (s.extract 8 s.size) w n k (by omega) hq
   have c2:=fun w=>Zkt (s.extract 0 8) w (by omega)
   have zz:=Zp (s.extract 8 s.size) k (s.extract 8 s.size).size;have c3:=fun w=>Zhf (Bk.pt (s.extract 0 8)) ((s.extract 8 s.size).extract k (s.extract 8 s.size).size) (n:Nat) w (by omega)
   clear hq h8 z8 z0 zz;generalize Bk.dec s=D at *;have hip:=Zb (Bk.pt (s.extract 0 8));generalize (Cd.rd (Bk.pt (s.extract 0 8)) ((s.extract 8 s.size).extract k (s.extract 8 s.size).size) (n:Nat)).1=X at *;generalize (Cd.rd (Bk.pt (s.extract 0 8)) ((s.extract 8 s.size).extract k (s.extract 8 s.size).size) (n:Nat)).2=E at *;generalize Bk.pt (s.extract 0 8)=P at *
   obtain ⟨t0,e0⟩:∃ t,s.extract 0 8=t:=⟨_,rfl⟩
   obtain ⟨t,et⟩:∃ t,s.extract 8 s.size=t:=⟨_,rfl⟩
   rw [et] at c1 c3;rw [e0] at c2;generalize t.extract k t.size=r at *;by_cases hE:E=0
   ·rw [if_pos hE] at hD;subst hD;subst hE;go_enter Tryz.func127,Tryz.ntmps127
    go_wp2_with fail
    refine (c1 _).mono ?_;rintro e w1 ⟨rfl,G1⟩;go_wp2_with fail
    refine (c2 _).mono ?_;rintro e w2 ⟨rfl,G2⟩;go_wp2_with fail
    refine (c3 _).mono ?_;rintro e w3 ⟨rfl,G3⟩;go_wp2_with fail
    go_ret2
    exact ⟨rfl,bch (bch G1 G2 (nl _)) G3 (nl _)⟩
   ·rw [if_neg hE] at hD;subst hD;have dE:(E != 0)=true:=by simpa using hE
    clear hE;go_enter Tryz.func127,Tryz.ntmps127
    go_wp2_with fail
    refine (c1 _).mono ?_;rintro e w1 ⟨rfl,G1⟩;go_wp2_with fail
    refine (c2 _).mono ?_;rintro e w2 ⟨rfl,G2⟩;go_wp2_with fail
    refine (c3 _).mono ?_;rintro e w3 ⟨rfl,G3⟩;go_wp2_with fail
    go_ret2
    exact ⟨rfl,bch (bch G1 G2 (nl _)) G3 (nl _)⟩
namespace Bk
def unp (dict b:ByteArray):ByteArray × Int :=
 if 256<dict.size then (⟨#[]⟩,2) else if b.size=0 then (⟨#[]⟩,1) else
 if Cd.at8 b 0=0 then whl (b.extract 1 b.size) else if Cd.at8 b 0=1 then ply dict (b.extract 1 b.size)
 else if Cd.at8 b 0=2 then (if (dec (b.extract 1 b.size)).2=0 then ply dict (dec (b.extract 1 b.size)).1 else (⟨#[]⟩,(dec (b.extract 1 b.size)).2)) else (⟨#[]⟩,1)
theorem ZiZ {b:ByteArray} (h:b.size ≠ 0) (x:UInt8):b.extract 0 1=⟨#[x]⟩ ↔ Cd.at8 b 0=x.toNat:=by
 have hl:0<b.data.size:=by have:b.size=b.data.size:=rfl;omega
 have e:(b.extract 0 1).data.toList=[b.data[0]]:=by
  simp only [ByteArray.data_extract,Array.toList_extract]
  cases b with
  | mk d =>
   obtain ⟨l⟩:=d
   cases l with
   | nil=>simp at hl
   | cons a l=>simp
 have e2:Cd.at8 b 0=b.data[0].toNat:=by
  unfold Cd.at8;rw [Array.getElem?_toList,Array.getElem?_eq_getElem hl];rfl
 rw [e2];constructor
 ·intro h9;rw [h9] at e;simp at e;rw [e]
 ·intro h9;apply ByteArray.ext;apply Array.toList_inj.1;rw [e];have:b.data[0]=x:=UInt8.toNat_inj.1 h9;rw [this]
theorem ZdV {b:ByteArray} (h:b.size ≠ 0) (x:UInt8):((b.extract 0 1).toList == [x])=decide (Cd.at8 b 0=x.toNat):=by
 have ex:[x]=(⟨#[x]⟩:ByteArray).toList:=by rw [ByteArray.toList_eq]
 rw [ex,Zdp];by_cases h1:Cd.at8 b 0=x.toNat
 ·rw [decide_eq_true h1,decide_eq_true ((ZiZ h x).2 h1)]
 ·rw [decide_eq_false h1,decide_eq_false (fun h9=>h1 ((ZiZ h x).1 h9))]
end Bk
theorem Zln (dict b:ByteArray) (w:World) (hd0:dict.size<=140737488355328) (hb:b.size<=140737488355328) :
 Calls Tryz.prog 96 #[.string dict,.string b] w fun e w'=>e=.returned (.tuple #[.string (Bk.unp dict b).1,.int .i64 (Bk.unp dict b).2])/\Below w.heap.size w w':=by
 by_cases hd:256<dict.size
 ·have e:Bk.unp dict b=(⟨#[]⟩,2):=if_pos hd;rw [e];have d1:decide (256<(dict.size:Int))=true:=by simp;omega
  have h':256<(dict.size:Int):=by omega
  clear e hd;go_enter Tryz.func96,Tryz.ntmps96
  go_wp2_with fail
  go_ret2
  exact ⟨rfl,bR _ _⟩
 ·have d1:decide (256<(dict.size:Int))=false:=by simp;omega
  have hd':(dict.size:Int)<=256:=by omega
  by_cases h0:b.size=0
  ·have e:Bk.unp dict b=(⟨#[]⟩,1):=by rw [Bk.unp,if_neg hd,if_pos h0]
   rw [e]
   obtain rfl:b=⟨#[]⟩:=by
    apply ByteArray.ext;exact Array.eq_empty_of_size_eq_zero h0
   clear e hd h0;go_enter Tryz.func96,Tryz.ntmps96
   go_wp2_with fail
   go_ret2
   exact ⟨rfl,bR _ _⟩
  ·have hne:b.toList.isEmpty=false:=by
    rw [ByteArray.toList_eq,Bool.eq_false_iff];intro e;rw [List.isEmpty_iff] at e;apply h0;have:=congrArg List.length e;rw [Cd.Zf] at this;simpa using this
   have hU:Bk.unp dict b=if Cd.at8 b 0=0 then Bk.whl (b.extract 1 b.size) else if Cd.at8 b 0=1 then Bk.ply dict (b.extract 1 b.size) else if Cd.at8 b 0=2 then (if (Bk.dec (b.extract 1 b.size)).2=0 then Bk.ply dict (Bk.dec (b.extract 1 b.size)).1 else (⟨#[]⟩,(Bk.dec (b.extract 1 b.size)).2)) else (⟨#[]⟩,1):=by rw [Bk.unp,if_neg hd,if_neg h0]
   have k0:=Bk.ZdV h0 0;have k1:=Bk.ZdV h0 1;have k2:=Bk.ZdV h0 2;have hs1:=Zp b 1 b.size;have hb1:(1:Int)<=(b.size:Int):=by omega
   have hb1n:1<=b.size:=by omega
   have hbs:(b.extract 1 b.size).size<=140737488355328:=by omega
   rw [hU];clear hU hs1 h0;by_cases e0:Cd.at8 b 0=0
   ·rw [if_pos e0];have c1:=fun w=>ZnE (b.extract 1 b.size) w hbs
    rw [decide_eq_true (by exact e0)] at k0;generalize (Bk.whl (b.extract 1 b.size)).1=X at *;generalize (Bk.whl (b.extract 1 b.size)).2=E at *;clear k1 k2 e0 hd;go_enter Tryz.func96,Tryz.ntmps96
    go_wp2_with fail
    refine (c1 _).mono ?_;rintro e w1 ⟨rfl,G⟩;go_wp2_with fail
    go_ret2
    exact ⟨rfl,G⟩
   ·rw [if_neg e0];rw [decide_eq_false (by exact e0)] at k0;by_cases e1:Cd.at8 b 0=1
    ·rw [if_pos e1];have c1:=fun w=>ZcC dict (b.extract 1 b.size) w (by omega)
     rw [decide_eq_true (by exact e1)] at k1;generalize (Bk.ply dict (b.extract 1 b.size)).1=X at *;generalize (Bk.ply dict (b.extract 1 b.size)).2=E at *;clear k2 e0 e1 hd;go_enter Tryz.func96,Tryz.ntmps96
     go_wp2_with fail
     refine (c1 _).mono ?_;rintro e w1 ⟨rfl,G⟩;go_wp2_with fail
     go_ret2
     exact ⟨rfl,G⟩
    ·rw [if_neg e1];rw [decide_eq_false (by exact e1)] at k1;by_cases e2:Cd.at8 b 0=2
     ·rw [if_pos e2];rw [decide_eq_true (by exact e2)] at k2;have c1:=fun w=>Zlj (b.extract 1 b.size) w hbs
      have c2:=fun w=>ZcC dict (Bk.dec (b.extract 1 b.size)).1 w (by omega)
      by_cases hE:(Bk.dec (b.extract 1 b.size)).2=0
      ·rw [if_pos hE];rw [hE] at c1;generalize (Bk.ply dict (Bk.dec (b.extract 1 b.size)).1).1=X at *;generalize (Bk.ply dict (Bk.dec (b.extract 1 b.size)).1).2=E at *;generalize (Bk.dec (b.extract 1 b.size)).1=Y at *;clear e0 e1 e2 hd hE;go_enter Tryz.func96,Tryz.ntmps96
       go_wp2_with fail
       refine (c1 _).mono ?_;rintro e w1 ⟨rfl,G1⟩;go_wp2_with fail
       refine (c2 _).mono ?_;rintro e w2 ⟨rfl,G2⟩;go_wp2_with fail
       go_ret2
       exact ⟨rfl,bch G1 G2 (nl _)⟩
      ·rw [if_neg hE];generalize (Bk.dec (b.extract 1 b.size)).1=Y at *;generalize (Bk.dec (b.extract 1 b.size)).2=E at *;have dE:(E != 0)=true:=by simpa using hE
       clear e0 e1 e2 hd hE c2;go_enter Tryz.func96,Tryz.ntmps96
       go_wp2_with fail
       refine (c1 _).mono ?_;rintro e w1 ⟨rfl,G1⟩;go_wp2_with fail
       go_ret2
       exact ⟨rfl,G1⟩
     ·rw [if_neg e2];rw [decide_eq_false (by exact e2)] at k2;clear e0 e1 e2 hd;go_enter Tryz.func96,Tryz.ntmps96
      go_wp2_with fail
      go_ret2
      exact ⟨rfl,bR _ _⟩
namespace Bk
def xa (xs:List ByteArray) (i:Nat):ByteArray:=xs.getD i ⟨#[]⟩
def mnK (xs:List ByteArray):Nat->ByteArray
 | 0=>xa xs 0
 | i+1=>if (xa xs i).size<(mnK xs i).size then xa xs i else mnK xs i
theorem ZmQ (xs:List ByteArray):mnK xs 1=xa xs 0:=by rw [mnK,mnK,if_neg (by omega)]
def TxAt (w:World) (g:Nat) (xs:List ByteArray):Prop:=g<w.heap.size/\∀ i,i<xs.length->w.cell? ⟨g,i,none⟩=some (.string (xa xs i))
theorem TxAt.below {w w':World} {g:Nat} {xs:List ByteArray} (h:TxAt w g xs) (hb:Below w.heap.size w w'):TxAt w' g xs:=⟨Nat.lt_of_lt_of_le h.1 hb.size,fun i hi=>by rw [<-h.2 i hi];exact hb.cell (p:=⟨g,i,none⟩) h.1⟩
theorem Zon {xs:List ByteArray} {B:Nat} (h:∀ i,(xa xs i).size<=B):∀ i,(mnK xs i).size<=B:=by
 intro i
 induction i with
 | zero=>exact h 0
 | succ i ih =>
  rw [mnK];split
  ·exact h i
  ·exact ih
end Bk
theorem Zgo (a b:ByteArray) (w:World) (ha:a.size<=140737488355328) (hb:b.size<=140737488355328) :
 Calls Tryz.prog 92 #[.string a,.string b] w fun e w'=>e=.returned (.int .i64 ((a.size:Int) - (b.size:Int)))/\Below w.heap.size w w':=by
 have ha':(a.size:Int)<=140737488355328:=by omega
 have hb':(b.size:Int)<=140737488355328:=by omega
 go_enter Tryz.func92,Tryz.ntmps92
 go_wp2_with fail
 go_ret
 exact ⟨rfl,bR _ _⟩
theorem Zeg (xs:List ByteArray) (g cap:Nat) (w:World) (hx:Bk.TxAt w g xs) (hn:1<=xs.length) (hn2:xs.length<=1000) (hB:∀ i,(Bk.xa xs i).size<=1000000) :
 Calls Tryz.prog 91 #[.slice (some ⟨g,0,none⟩) xs.length cap,.func (.func 92) #[] #[]] w fun e w'=>e=.returned (.string (Bk.mnK xs xs.length))/\Below w.heap.size w w':=by
 have HX:Hid (∀ w',Bk.TxAt w' g xs->∀ i,i<xs.length->w'.cell? ⟨g,i,none⟩=some (.string (Bk.xa xs i))):=fun w' h=>h.2
 have c0:=HX.out w hx 0 (by omega);have HB:Hid (∀ i,(Bk.xa xs i).size<=1000000):=hB
 obtain ⟨r,hr⟩:∃ r,Bk.mnK xs xs.length=r:=⟨_,rfl⟩
 rw [hr];have Hr:Hid (Bk.mnK xs xs.length=r):=hr;have HM1:Hid (Bk.mnK xs 1=Bk.xa xs 0):=Bk.ZmQ xs;have dn:decide ((xs.length:Int)<1)=false:=dF (by omega);have dn':decide (xs.length<1)=false:=dF (by omega);have hn':(1:Int)<=(xs.length:Int):=by omega
 have hn3:(0:Int)<(xs.length:Int):=by omega
 clear hr hB;go_enter Tryz.func91,Tryz.ntmps91
 go_wp2_with fail
 go_loopw [5,6] (fun m i wr=>∃ k:Nat,1<=k/\k<=xs.length/\i=.int .i64 k/\m=.string (Bk.mnK xs k)/\Bk.TxAt wr g xs/\Below w.heap.size w wr) (fun _ i _=>xs.length - (intOf i).toNat)
 case atStart=>exact ⟨1,by omega,hn,rfl,by rw [HM1.out],hx,bR _ _⟩
 case round =>
  clear c0 hx;obtain ⟨k,hk1,hk2,rfl,rfl,hx,B1⟩:=hrel;by_cases hlt:k<xs.length
  ·have d1:decide ((k:Int)<(xs.length:Int))=true:=by simp;omega
   have d1':decide (k<xs.length)=true:=by simp;omega
   have hki:(k:Int)<(xs.length:Int):=by omega
   have c1:=HX.out wr hx k hlt;have z1:=HB.out k;have z2:=Bk.Zon HB.out k;have c2:=fun w=>Zgo (Bk.xa xs k) (Bk.mnK xs k) w (by omega) (by omega)
   have HN:Hid (Bk.mnK xs (k+1)=if (Bk.xa xs k).size<(Bk.mnK xs k).size then Bk.xa xs k else Bk.mnK xs k):=rfl
   obtain ⟨X,hXe⟩:∃ X,Bk.xa xs k=X:=⟨_,rfl⟩
   rw [hXe] at c1 z1 c2 HN;have HXk:Hid (Bk.xa xs k=X):=hXe;clear hXe;generalize Bk.mnK xs k=M at *;by_cases hs:X.size<M.size
   ·have d2:decide ((X.size:Int) - (M.size:Int)<0)=true:=zdT (by omega);have HN2:Hid (Bk.mnK xs (k+1)=X):=HN.out.trans (if_pos hs);clear HN;go_wp2_with fail
    refine (c2 _).mono ?_;rintro e w2 ⟨rfl,G⟩;have x2:=hx.below G;have B2:=bch B1 G (nl _);have c3:=HX.out w2 x2 k hlt;rw [show Bk.xa xs k=X from HXk.out] at c3;clear hx B1 G c2 c1;go_wp2_with fail
    go_roundw
    case rel=>exact ⟨k+1,by omega,by omega,by go_num,by rw [HN2.out],x2,B2⟩
    case measure=>simp [intOf];omega
   ·have d2:decide ((X.size:Int) - (M.size:Int)<0)=false:=dF (by omega);have HN2:Hid (Bk.mnK xs (k+1)=M):=HN.out.trans (if_neg hs);clear HN;go_wp2_with fail
    refine (c2 _).mono ?_;rintro e w2 ⟨rfl,G⟩;have x2:=hx.below G;have B2:=bch B1 G (nl _);clear hx B1 G c2 c1;go_wp2_with fail
    go_roundw
    case rel=>exact ⟨k+1,by omega,by omega,by go_num,by rw [HN2.out],x2,B2⟩
    case measure=>simp [intOf];omega
  ·obtain rfl:k=xs.length:=by omega
   have d1:decide ((xs.length:Int)<(xs.length:Int))=false:=by simp
   have d1':decide (xs.length<xs.length)=false:=by simp
   rw [Hr.out];go_wp2_with fail
   go_ret
   exact ⟨rfl,B1⟩
open Go.Maps Go.ChangeShapes
theorem Zse {w:World} {B bm gp ga gf gl base:Nat} {s:ByteArray} {r a f:Nat} {v:Value} {l:List Tk.T} (h:PS w bm gp ga gf gl base s r a f v l) (hf:¬ f<a) :
 Calls Tryz.prog 115 #[.pointer (some ⟨gf,0,none⟩),.pointer (some ⟨ga,0,none⟩),.pointer (some ⟨gl,0,none⟩),.pointer (some ⟨gp,0,none⟩)] w fun e w'=>e=.returned (.tuple #[])/\Below B w w'/\∃ v',PS w' bm gp ga gf gl base s r a f v' (l++Tk.lay s f a):=by
 have hca:=h.ca;have hcf:=h.cf;have d1:decide ((f:Int)<(a:Int))=false:=by simp;omega
 have d1':decide (f<a)=false:=by simp;omega
 have H:Hid (PS w bm gp ga gf gl base s r a f v l):=h;clear h;go_enter Tryz.func115,Tryz.ntmps115
 go_wp2_with fail
 go_end0
 refine ⟨rfl,bR _ _,v,?_⟩;unfold Tk.lay;rw [if_neg hf,List.append_nil];exact H.out
theorem ZpE {w:World} {B bm gp ga gf gl base:Nat} {s:ByteArray} {r a f:Nat} {v:Value} {l:List Tk.T} (O:Ord B bm gp ga gf gl base) (h:PS w bm gp ga gf gl base s r a f v l) (hf:f<a) (ha:a<=s.size) (hs:s.size<=2000) (hl:l.length<=2000) :
 Calls Tryz.prog 115 #[.pointer (some ⟨gf,0,none⟩),.pointer (some ⟨ga,0,none⟩),.pointer (some ⟨gl,0,none⟩),.pointer (some ⟨gp,0,none⟩)] w fun e w'=>e=.returned (.tuple #[])/\Below B w w'/\∃ v',PS w' bm gp ga gf gl base s r a f v' (l++Tk.lay s f a):=by
 obtain ⟨i0,hi,hz0,hz1,hz2⟩:=info_parts ZcK;have hca:=h.ca;have hcf:=h.cf;have hcl:=h.cl;have hcp:=h.past.c0;have d1:decide ((f:Int)<(a:Int))=true:=by simp;omega
 have d1':decide (f<a)=true:=by simp;omega
 have hsl:=ZdD s (f:Int) (a:Int) f a rfl rfl (by omega) ha;have hbs:=h.bs;obtain ⟨o1,o2,o3,o4,o5,o6⟩:=O
 have O:Hid (Ord B bm gp ga gf gl base):=⟨o1,o2,o3,o4,o5,o6⟩
 have H:Hid (PS w bm gp ga gf gl base s r a f v l):=h;have hlay:Tk.lay s f a=[⟨s.extract f a,0,0⟩]:=by unfold Tk.lay;rw [if_pos hf]
 have HB:Hid (Tk.lay s f a=[⟨s.extract f a,0,0⟩]):=hlay;clear h hlay;have nfl:gf ≠ gl:=by omega
 have nal:ga ≠ gl:=by omega
 have npl:gp ≠ gl:=by omega
 have nlf:gl ≠ gf:=by omega
 have nla:gl ≠ ga:=by omega
 have nlp:gl ≠ gp:=by omega
 have xs:(s.extract f a).size<=281474976710656:=Nm.Zcx (by omega);go_enter Tryz.func115,Tryz.ntmps115
 go_wp2_with fail
 have HL:Hid (∀ (w1:World) (g cp:Nat) (w2:World) (T:TypeId),Below w.heap.size w w1->PS w1 bm gp ga gf gl base s r a f v l->(w1.alloc (.cells #[.string (s.extract f a),.int .i64 0,.int .i64 0] T)).grownBy w2 v.ownBlock →
  w2.ownsRow base 145 3 (.slice (some ⟨g,0,none⟩) (l.length+1) cp) (l.length+1) (tcs l++[.string (s.extract f a),.int .i64 0,.int .i64 0])->(v.ownBlock=some g\/g=(w1.alloc (.cells #[.string (s.extract f a),.int .i64 0,.int .i64 0] T)).heap.size) →
  Hid (Below B w (w2.setCell ⟨gl,0,none⟩ (.slice (some ⟨g,0,none⟩) (l.length+1) cp))/\PS (w2.setCell ⟨gl,0,none⟩ (.slice (some ⟨g,0,none⟩) (l.length+1) cp)) bm gp ga gf gl base s r a f (.slice (some ⟨g,0,none⟩) (l.length+1) cp) (l++[⟨s.extract f a,0,0⟩]))/\w2.cell? ⟨gl,0,none⟩=some v/\w2.frozen? ⟨gl,0,none⟩=false):=by
  intro w1 g cp w2 T hb hp hg hown hat;have hg1:=(World.grownBy_alloc w1 _ _).trans hg;obtain ⟨q1,q2,q3⟩:=hp.laid (t:=⟨s.extract f a,0,0⟩) O.out hown hg1 (hat.imp id (fun e=>by rw [e];simp));refine ⟨⟨?_,q1⟩,q2,q3⟩;have h1:Below B w w1:=hb.mono (by omega);have h2:=h1.grown hg1 (by have:=hp.bs;omega) (fun k hk=>by have:=(hp.own.lt k hk).1;omega);exact h2.setCell (by show B<=gl;omega) _
 go_region_law (first | (refine zsL _ rfl _ _ 118 rfl base 145 i0 (.agg #[.string ⟨#[]⟩,.int .i64 0,.int .i64 0]) 3 32 U118 hi hz0 hz1 hz2 rfl (by decide) v _ _ rfl (H1.out.own.alloc _) ⟨w1.heap.size,0,none⟩ 1 1 [.string (s.extract f a),.int .i64 0,.int .i64 0] rfl rfl (Zhr _ _ _ _ _) (one3 _ _ _ rfl rfl rfl) (by decide) (ZaJ (by omega)) (by omega) (by simp;omega) _ rfl ?_;intro g cp w2 hown2 hgrow2 hat2 hlt2;obtain ⟨HP,k1,k2⟩:=HL.out w1 g cp w2 _ hb H1.out hgrow2 hown2 hat2;clear hgrow2 hown2 hat2 hlt2) | (go_simp;go_at_call 35;refine (ZM _ _ xs).mono ?_;rintro e w1 ⟨rfl,hb⟩;replace hb:Below w.heap.size w w1:=(by exact Below.trans (bR _ _).drew hb);have H1:Hid (PS w1 bm gp ga gf gl base s r a f v l):=H.out.below O.out hb;have hcl1:=H1.out.cl;have hcl2:∀ o,(w1.alloc o).cell? ⟨gl,0,none⟩=some v:=fun o=>(cA _ _ _ (cL w1 _ hcl1)).trans hcl1;have hbs1:=H1.out.bs))
 all_goals
  go_wp2_with fail
  go_end0
  exact ⟨rfl,HP.out.1,_,by rw [HB.out];exact HP.out.2⟩
end Go.Proofs.YtbjbjbpgmojcbacGreat
