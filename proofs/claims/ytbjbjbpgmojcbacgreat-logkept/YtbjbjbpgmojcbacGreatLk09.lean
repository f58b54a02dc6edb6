/- A part of the proof: what it leans on. -/
import Derived.Test.YtbjbjbpgmojcbacGreatLk08
set_option maxRecDepth 4000
set_option maxHeartbeats 4000000
namespace Go.Proofs.YtbjbjbpgmojcbacGreat
open Go.RowKit
namespace Cd
def find (f ws:Nat->Int) (n word:Int):Nat->Option Nat
 | 0=>none
 | k+1=>match find f ws n word k with
  | some s=>some s
  | none=>if f k=n/\ws k=word then some k else none
theorem ZgK {f ws:Nat->Int} {n word:Int} {k:Nat} (h:find f ws n word k=none) (h1:¬ (f k=n/\ws k=word)):find f ws n word (k+1)=none:=by rw [find,h];simp only;rw [if_neg h1]
theorem Zmq {f ws:Nat->Int} {n word:Int} {k:Nat} (h:find f ws n word k=none) (h1:f k=n/\ws k=word):∀ j,find f ws n word (k+1+j)=some k:=by
 intro j
 induction j with
 | zero=>rw [Nat.add_zero,find,h];simp only;rw [if_pos h1]
 | succ j ih=>rw [<-Nat.add_assoc,find,ih]
def ZH (b:ByteArray) (a:Nat):Nat:=at8 b (a / 8) / 2 ^ (7 - a % 8) % 2
def fnd (f ws:Nat->Int) (n word:Int):Option Nat:=find f ws n word 16
def sgn (f ws:Nat->Int) (b:ByteArray):Nat->Int->Int->Nat->Int × Nat
 | 0,_,_,a=>(-1,a)
 | m+1,n,word,a=>if 8*b.size<=a then (-1,a) else if (fnd f ws n (2*word+ZH b a)).isSome=true then (((fnd f ws n (2*word+ZH b a)).getD 0:Nat),a+1)
  else sgn f ws b m (n+1) (2*word+ZH b a) (a+1)
theorem Ziv {f ws:Nat->Int} {b:ByteArray} {m:Nat} {n word:Int} {a:Nat} (h:8*b.size<=a):sgn f ws b m n word a=(-1,a):=by
 cases m with
 | zero=>rfl
 | succ m=>rw [sgn,if_pos h]
theorem ZdH {f ws:Nat->Int} {b:ByteArray} {m:Nat} {n word:Int} {a s:Nat} (h:¬ 8*b.size<=a) (h1:fnd f ws n (2*word+ZH b a)=some s):sgn f ws b (m+1) n word a=((s:Int),a+1):=by
 rw [sgn,if_neg h,h1,if_pos (by rfl)];rfl
theorem ZdI {f ws:Nat->Int} {b:ByteArray} {m:Nat} {n word:Int} {a:Nat} (h:¬ 8*b.size<=a) (h1:fnd f ws n (2*word+ZH b a)=none):sgn f ws b (m+1) n word a=sgn f ws b m (n+1) (2*word+ZH b a) (a+1):=by
 rw [sgn,if_neg h,h1,if_neg (by simp)]
theorem ZdC (b:ByteArray) (a:Nat):ZH b a<=1:=by unfold ZH;omega
end Cd
def rdc (f ws:Nat->Int) (b:ByteArray) (a:Nat):Array Value:=arr f++arr ws++#[.string b,.int .i64 (a:Nat)]
def RdAt (w:World) (gr:Nat) (f ws:Nat->Int) (b:ByteArray) (a:Nat):Prop:=gr<w.heap.size/\w.heap[gr]?=some (.cells (rdc f ws b a) 206 (0,0))
theorem RdAt.below {w w':World} {gr:Nat} {f ws:Nat->Int} {b:ByteArray} {a:Nat} (h:RdAt w gr f ws b a) (hb:Below w.heap.size w w'):RdAt w' gr f ws b a:=⟨Nat.lt_of_lt_of_le h.1 hb.size,by rw [hb.block gr h.1];exact h.2⟩
theorem RdAt.l {w:World} {gr:Nat} {f ws:Nat->Int} {b:ByteArray} {a:Nat} (h:RdAt w gr f ws b a) (k:Nat) (hk:k<16):w.cell? ⟨gr,k,none⟩=some (.int .i64 (f k)):=by
 rw [cell_of_row w gr k _ _ _ h.2,rdc,Array.getElem?_append_left (by simp [Zh];omega),Array.getElem?_append_left (by rw [Zh];exact hk),ZbW f k hk]
theorem RdAt.w {w:World} {gr:Nat} {f ws:Nat->Int} {b:ByteArray} {a:Nat} (h:RdAt w gr f ws b a) (k:Nat) (hk:k<16):w.cell? ⟨gr,16+k,none⟩=some (.int .i64 (ws k)):=by
 rw [cell_of_row w gr _ _ _ _ h.2,rdc,Array.getElem?_append_left (by simp [Zh];omega),Array.getElem?_append_right (by rw [Zh];omega),Zh,show 16+k - 16=k by omega,ZbW ws k hk]
theorem RdAt.b {w:World} {gr:Nat} {f ws:Nat->Int} {b:ByteArray} {a:Nat} (h:RdAt w gr f ws b a):w.cell? ⟨gr,32,none⟩=some (.string b):=by
 rw [cell_of_row w gr _ _ _ _ h.2,rdc,Array.getElem?_append_right (by simp [Zh])];simp [Zh]
theorem RdAt.at_ {w:World} {gr:Nat} {f ws:Nat->Int} {b:ByteArray} {a:Nat} (h:RdAt w gr f ws b a):w.cell? ⟨gr,33,none⟩=some (.int .i64 (a:Nat)):=by
 rw [cell_of_row w gr _ _ _ _ h.2,rdc,Array.getElem?_append_right (by simp [Zh])];simp [Zh]
theorem RdAt.frozen {w:World} {gr:Nat} {f ws:Nat->Int} {b:ByteArray} {a:Nat} (h:RdAt w gr f ws b a) (k:Nat):w.frozen? ⟨gr,k,none⟩=false:=by simp [World.frozen?,h.2]
theorem Zrg (f ws:Nat->Int) (b:ByteArray) (a a':Nat):(rdc f ws b a).setIfInBounds 33 (.int .i64 (a':Nat))=rdc f ws b a':=by
 unfold rdc;have hs:(arr f++arr ws).size=32:=by rw [Array.size_append,Zh,Zh]
 generalize arr f++arr ws=c at *;apply Array.ext_getElem?;intro i;rw [Array.getElem?_setIfInBounds];by_cases hi:i<32
 ·rw [if_neg (by omega),Array.getElem?_append_left (by omega),Array.getElem?_append_left (by omega)]
 ·rw [Array.getElem?_append_right (by omega),Array.getElem?_append_right (by omega),hs];by_cases h1:i=32
  ·subst h1;simp
  ·by_cases h2:i=33
   ·subst h2;simp [hs]
   ·obtain ⟨j,rfl⟩:∃ j,i=j+34:=⟨i - 34,by omega⟩
    rw [if_neg (by omega)];simp [show j+34 - 32=j+2 by omega]
theorem RdAt.set {w:World} {gr:Nat} {f ws:Nat->Int} {b:ByteArray} {a:Nat} (h:RdAt w gr f ws b a) (a':Nat):RdAt (w.setCell ⟨gr,33,none⟩ (.int .i64 (a':Nat))) gr f ws b a':=by
 refine ⟨by have:=h.1;simpa [World.setCell] using this,?_⟩;rw [ZcB h.2,Zrg]
theorem Zmr (b:ByteArray) (a:Nat):bits BinOp.and IntKind.u8 ((Cd.at8 b (a / 8):Int) / 2 ^ (7 - a % 8)) 1=(Cd.ZH b a:Nat):=by
 have h1:=Cd.ZaC b (a / 8);have e0:((Cd.at8 b (a / 8):Int) / 2 ^ (7 - a % 8))=((Cd.at8 b (a / 8) / 2 ^ (7 - a % 8):Nat):Int):=by push_cast;rfl
 have h2:Cd.at8 b (a / 8) / 2 ^ (7 - a % 8)<=Cd.at8 b (a / 8):=Nat.div_le_self _ _;unfold Cd.ZH;rw [e0];generalize Cd.at8 b (a / 8) / 2 ^ (7 - a % 8)=q at *;have h3:=bits_mask .u8 8 (by decide) wraps_u8 1 (by decide) (q:Int) (by omega) (by omega);have e:((2:Int) ^ 1 - 1)=1:=by decide
 have e2:((2:Int) ^ 1)=2:=by decide
 rw [e,e2] at h3;rw [h3];omega
def Only (g:Nat) (a w:World):Prop:=Below g a w/\w.heap.size=a.heap.size/\∀ k,k ≠ g->w.heap[k]?=a.heap[k]?
theorem Only.refl (g:Nat) (a:World):Only g a a:=⟨Below.refl _ _,rfl,fun _ _=>rfl⟩
theorem Only.drewN {g:Nat} {a w:World} (h:Only g a w) (n:Nat):Only g a (w.drewN n):=⟨below_drewN h.1 n,h.2.1,h.2.2⟩
theorem Only.set {g:Nat} {a w:World} (h:Only g a w) (k:Nat) (v:Value):Only g a (w.setCell ⟨g,k,none⟩ v):=by
 refine ⟨h.1.setCell (p:=⟨g,k,none⟩) (nl _) _,by have:=h.2.1;simpa [World.setCell] using this,fun j hj=>?_⟩;rw [ZcH (fun e=>hj e.symm)];exact h.2.2 j hj
theorem Only.trans {g:Nat} {a b c:World} (h:Only g a b) (h':Only g b c):Only g a c:=⟨h.1.trans h'.1,h'.2.1.trans h.2.1,fun k hk=>(h'.2.2 k hk).trans (h.2.2 k hk)⟩
theorem Only.own {g:Nat} {a w:World} (h:Only g a w) {t:TypeId} {sz n:Nat} {v:Value} {cs:List Value} (ho:a.ownsRow (g+1) t sz v n cs):w.ownsRow (g+1) t sz v n cs:=by
 refine ⟨ho.1,?_⟩;rcases ho.2 with h0 | ⟨q,cap,cur,rfl,e1,e2,e3⟩
 ·exact .inl h0
 ·exact .inr ⟨q,cap,cur,rfl,e1,by rw [h.2.2 q (by omega)];exact e2,e3⟩
theorem ZoW (gr:Nat) (f ws:Nat->Int) (b:ByteArray) (a:Nat) (w:World) (hB:RdAt w gr f ws b a) (hs:b.size<=140737488355328) (ha:a<=8*b.size) :
 Calls Tryz.prog 174 #[.pointer (some ⟨gr,0,none⟩)] w fun e w'=>e=.returned (.int .i64 (Cd.sgn f ws b 15 1 0 a).1)/\Only gr w w'/\RdAt w' gr f ws b (Cd.sgn f ws b 15 1 0 a).2:=by
 obtain ⟨r1,r2,hr⟩:∃ r1 r2,Cd.sgn f ws b 15 1 0 a=(r1,r2):=⟨_,_,rfl⟩
 rw [hr];have Hr:Hid (Cd.sgn f ws b 15 1 0 a=(r1,r2)):=hr;have hs':(b.size:Int)<=140737488355328:=by omega
 clear hr;go_enter Tryz.func174,Tryz.ntmps174
 go_wp2_with fail
 go_loopw [3,4] (fun x i wr=>∃ (m:Nat) (n word:Int) (A:Nat),m<=15/\i=.int .i64 n/\Hid (n=16 - (m:Int))/\x=.int .i64 word/\0<=word/\word<2 ^ (15 - m)/\A<=8*b.size/\Hid (Cd.sgn f ws b m n word A=(r1,r2))/\RdAt wr gr f ws b A/\Only gr w wr) (fun _ i _=>20 - (intOf i).toNat)
 case atStart=>exact ⟨15,1,0,a,by omega,rfl,by show _=_;omega,rfl,by omega,by decide,ha,Hr,hB,Only.refl _ _⟩
 case round =>
  clear hB Hr;obtain ⟨m,n,word,A,hm,rfl,Hn,rfl,hw0,hw1,hA,Hr,hB,G⟩:=hrel;have c32:=hB.b;have c33:=hB.at_;by_cases hend:m=0\/8*b.size<=A
  ·have h9:Cd.sgn f ws b m n word A=(-1,A):=by
    rcases hend with h | h
    ·subst h;rfl
    ·exact Cd.Ziv h
   have h8:=Hr.out.symm.trans h9;simp only [Prod.mk.injEq] at h8;obtain ⟨rfl,rfl⟩:=h8;by_cases hm0:m=0
   ·have d1:decide (n<=15)=false:=by have:=Hn.out;simp;omega
    clear hend h9 hw1;go_wp2_with fail
    go_quiet (fail)
    go_wp2_with fail
    go_ret
    exact ⟨rfl,G.drewN _,hB.below (below_drewN (bR _ _) _)⟩
   ·have d1:decide (n<=15)=true:=by have:=Hn.out;simp;omega
    have d2:decide ((r2:Int)<8*(b.size:Int))=false:=by simp;omega
    have d3:decide (r2<8*b.size)=false:=by simp;omega
    clear hend h9 hw1;go_wp2_with fail
    go_quiet (fail)
    go_wp2_with fail
    go_ret
    exact ⟨rfl,G.drewN _,hB.below (below_drewN (bR _ _) _)⟩
  ·have hA1:A<8*b.size:=by omega
   obtain ⟨m,rfl⟩:∃ j,m=j+1:=⟨m - 1,by omega⟩
   have d1:decide (n<=15)=true:=by have:=Hn.out;simp;omega
   have d2:decide ((A:Int)<8*(b.size:Int))=true:=by simp;omega
   have d3:decide (A<8*b.size)=true:=by simp;omega
   obtain ⟨q,hq⟩:∃ q,A / 8=q:=⟨_,rfl⟩
   obtain ⟨r,hr⟩:∃ r,A % 8=r:=⟨_,rfl⟩
   have hql:q<b.size:=by omega
   have e3:(A:Int).tmod 8=(r:Int):=by rw [Int.tmod_eq_emod_of_nonneg (by omega)];omega
   have e4:(A:Int).tdiv 8=(q:Int):=by rw [Int.tdiv_eq_ediv_of_nonneg (by omega)];omega
   have e5:(A:Int) % 8=(r:Int):=by omega
   have e6:(A:Int) / 8=(q:Int):=by omega
   have hA8:Cd.at8 b q=b[q].toNat:=by unfold Cd.at8;rw [Nm.ZL b q hql];rfl
   obtain ⟨x,hx⟩:∃ x:Int,(b[q].toNat:Int)=x:=⟨_,rfl⟩
   have hbf:=Zmr b A;rw [hq,hr,hA8,hx] at hbf;have hx0:0<=x:=by omega
   have hx1:x<=255:=by have:=b[q].toNat_lt;omega
   have hr8:r<8:=by omega
   have hw2:word<=32768:=by have h9:(2:Int) ^ (15 - (m+1))<=2 ^ 15:=Cd.ZbL (by omega);omega
   have HW1:Hid (2*word+(Cd.ZH b A:Nat)<2 ^ (15 - m)):=by
    have h9:(2:Int) ^ (15 - m)=2*2 ^ (15 - (m+1)):=by rw [show 15 - m=(15 - (m+1))+1 by omega,Int.pow_succ];omega
    have:=Cd.ZdC b A;show _<_;omega
   have hbl:=Cd.ZdC b A;have HS0:Hid (∀ k,Cd.fnd f ws n (2*word+(Cd.ZH b A:Nat))=some k->(r1,r2)=((k:Int),A+1)):=fun k h=>Hr.out.symm.trans (Cd.ZdH (by omega) h)
   have HS1:Hid (Cd.fnd f ws n (2*word+(Cd.ZH b A:Nat))=none->Cd.sgn f ws b m (n+1) (2*word+(Cd.ZH b A:Nat)) (A+1)=(r1,r2)):=fun h=>(Cd.ZdI (by omega) h).symm.trans Hr.out
   have HFN:Hid (Cd.fnd f ws n (2*word+(Cd.ZH b A:Nat))=Cd.find f ws n (2*word+(Cd.ZH b A:Nat)) 16):=rfl;have Hm:Hid (m<=15):=by show _<=_;omega
   have hn1:1<=n/\n<=15:=by have:=Hn.out;omega
   have Hn2:Hid (n+1=16 - (m:Int)):=by have:=Hn.out;show _=_;omega
   have HA2:Hid (A+1<=8*b.size):=hA1;generalize Cd.ZH b A=y at *;clear hend Hr hw1 Hn hA8 hm
   have HQR:Hid (A / 8=q/\A % 8=r):=⟨hq,hr⟩
   have hAb:A<=1125899906842624:=by omega
   clear hq hr hA;go_wp2_with fail
   go_quiet (fail)
   go_wp2_with fail
   have hB2:=hB.below (below_drewN (bR wr.heap.size wr) nq);have G2:=G.drewN nq;clear hB G c32 c33;generalize wr.drewN nq=wq at *;have c32:=hB2.b;have c33:=hB2.at_;have hf33:=hB2.frozen 33;go_quiet (fail)
   have hB3:=hB2.below (below_drewN (bR wq.heap.size wq) nq);have G3:=G2.drewN nq;clear hB2 G2 c32 c33 hf33;generalize wq.drewN nq=wy at *;have c33:=hB3.at_;have hf33:=hB3.frozen 33;have hB4:RdAt (wy.setCell ⟨gr,33,none⟩ (.int .i64 ((A:Int)+1))) gr f ws b (A+1):=hB3.set (A+1);have G4:Only gr w (wy.setCell ⟨gr,33,none⟩ (.int .i64 ((A:Int)+1))):=G3.set 33 _;go_wp2_with fail
   clear hB3 G3 c33 hf33;generalize wy.setCell ⟨gr,33,none⟩ (.int .i64 ((A:Int)+1))=wz at *
   obtain ⟨WD,hWD⟩:∃ WD:Int,2*word+(y:Int)=WD:=⟨_,rfl⟩
   rw [hWD] at HW1 HS0 HS1 HFN;have hWD0:0<=WD:=by omega
   rw [hWD];clear hWD;go_loop [52] (fun i=>∃ k:Nat,k<=16/\i=.int .i64 k/\Hid (Cd.find f ws n WD k=none)) (fun i=>16 - (intOf i).toNat)
   case atStart=>exact ⟨0,by omega,rfl,rfl⟩
   case round =>
    obtain ⟨k,hk,rfl,hF⟩:=hrel;by_cases hlt:k<16
    ·have hk1:decide ((k:Int)<16)=true:=by simp;omega
     have hk2:decide (k<16)=true:=by simp;omega
     have cl:=hB4.l k hlt;have cw:=hB4.w k hlt
     have HF0:Hid (f k=n/\ws k=WD->r1=(k:Int)/\r2=A+1):=fun h=>by
      have h9:=Cd.Zmq hF.out h (15 - k);rw [show k+1+(15 - k)=16 by omega,<-HFN.out] at h9;have h8:=HS0.out k h9;simpa using h8
     have HF1:Hid (¬ (f k=n/\ws k=WD)->Cd.find f ws n WD (k+1)=none):=fun h=>Cd.ZgK hF.out h
     by_cases h1:f k=n
     ·by_cases h2:ws k=WD
      ·obtain ⟨rfl,rfl⟩:=HF0.out ⟨h1,h2⟩;have dd1:(f k == n)=true:=by simpa using h1
       have dd2:(ws k == WD)=true:=by simpa using h2
       generalize f k=z1 at *;generalize ws k=z2 at *;clear h1 h2 HF0 HF1;go_wp2_with fail
       go_ret
       exact ⟨rfl,G4,hB4⟩
      ·have HFF:Hid (Cd.find f ws n WD (k+1)=none):=HF1.out (fun h=>h2 h.2);have dd1:(f k == n)=true:=by simpa using h1
       have dd2:(ws k == WD)=false:=by simpa using h2
       generalize f k=z1 at *;generalize ws k=z2 at *;clear h1 h2 HF0 HF1;go_wp2_with fail
       exact ⟨⟨k+1,by omega,by go_num,HFF⟩,by simp [intOf];omega⟩
     ·have HFF:Hid (Cd.find f ws n WD (k+1)=none):=HF1.out (fun h=>h1 h.1);have dd1:(f k == n)=false:=by simpa using h1
      generalize f k=z1 at *;clear h1 HF0 HF1;go_wp2_with fail
      exact ⟨⟨k+1,by omega,by go_num,HFF⟩,by simp [intOf];omega⟩
    ·obtain rfl:k=16:=by omega
     have HZ:Hid (Cd.sgn f ws b m (n+1) WD (A+1)=(r1,r2)):=HS1.out (HFN.out.trans hF.out);have HW2:=HW1.out;go_wp2_with fail
     go_roundw
     case rel=>exact ⟨m,n+1,WD,A+1,Hm.out,by go_num,Hn2,rfl,hWD0,HW2,HA2.out,HZ,hB4,G4⟩
     case measure=>simp [intOf];omega
def Cd.end_ (b:ByteArray) (a:Nat):Bool:=decide (b.size=(a+7) / 8) && (decide (a % 8=0) || decide (Cd.at8 b (a / 8)*2 ^ (a % 8) % 256=0))
theorem ZlY (gr:Nat) (f ws:Nat->Int) (b:ByteArray) (a:Nat) (w:World) (hB:RdAt w gr f ws b a) (hs:b.size<=140737488355328) (ha:a<=8*b.size) :
 Calls Tryz.prog 175 #[.pointer (some ⟨gr,0,none⟩)] w fun e w'=>e=.returned (.bool (Cd.end_ b a))/\Below w.heap.size w w':=by
 have hs':(b.size:Int)<=140737488355328:=by omega
 have hab:a<=1125899906842624:=by omega
 have hab':(a:Int)<=1125899906842624:=by omega
 have c32:=hB.b;have c33:=hB.at_;have e7:((a:Int)+7).tdiv 8=(((a+7) / 8:Nat):Int):=by rw [Int.tdiv_eq_ediv_of_nonneg (by omega)];omega
 have hqb:(a+7) / 8<=1125899906842624:=by omega
 by_cases h1:b.size=(a+7) / 8
 ·have d1:((b.size:Int) != (((a+7) / 8:Nat):Int))=false:=by rw [h1];simp
  have e3:(a:Int).tmod 8=((a % 8:Nat):Int):=by rw [Int.tmod_eq_emod_of_nonneg (by omega)];omega
  by_cases h2:a % 8=0
  ·have hE:Cd.end_ b a=true:=by simp [Cd.end_,h1,h2]
   rw [hE];rw [h2] at e3;have e3':(a:Int).tmod 8=0:=e3;have e9:(a:Int) % 8=0:=by omega
   generalize (a+7) / 8=q at *;clear h2 h1 hE e3;go_enter Tryz.func175,Tryz.ntmps175
   go_wp2_with fail
   go_quiet (fail)
   go_wp2_with fail
   go_quiet (fail)
   go_wp2_with fail
   go_ret
   exact ⟨rfl,below_drewN (below_drewN (bR _ _) _) _⟩
  ·obtain ⟨q,hq⟩:∃ q,a / 8=q:=⟨_,rfl⟩
   obtain ⟨r,hr⟩:∃ r,a % 8=r:=⟨_,rfl⟩
   have hql:q<b.size:=by omega
   have hA8:Cd.at8 b q=b[q].toNat:=by unfold Cd.at8;rw [Nm.ZL b q hql];rfl
   obtain ⟨x,hx⟩:∃ x:Int,(b[q].toNat:Int)=x:=⟨_,rfl⟩
   have e4:(a:Int).tdiv 8=(q:Int):=by rw [Int.tdiv_eq_ediv_of_nonneg (by omega)];omega
   have e5:(a:Int) % 8=(r:Int):=by omega
   have e6:(a:Int) / 8=(q:Int):=by omega
   rw [hr] at e3;have d2:((r:Int) == 0)=false:=by simp;omega
   have hr8:r<8:=by omega
   have hr0:r ≠ 0:=by omega
   have hE:Cd.end_ b a=(x*2 ^ r % 256 == 0):=by
    have e0:x*2 ^ r % 256=((b[q].toNat*2 ^ r % 256:Nat):Int):=by rw [<-hx];push_cast;rfl
    rw [e0,Cd.end_,hq,hr,hA8];simp only [h1,decide_true,Bool.true_and,hr0,decide_false,Bool.false_or];generalize b[q].toNat*2 ^ r % 256=z;by_cases hz:z=0
    ·subst hz;rfl
    ·have:((z:Int) == 0)=false:=by simp;omega
     rw [this];simp [hz]
   rw [hE];have hx0:0<=x:=by omega
   have hx1:x<=255:=by have:=b[q].toNat_lt;omega
   generalize (a+7) / 8=q9 at *;clear h2 h1 hE hq hr hA8 hr0;go_enter Tryz.func175,Tryz.ntmps175
   go_wp2_with fail
   go_quiet (fail)
   go_wp2_with fail
   go_quiet (fail)
   go_wp2_with fail
   go_ret
   exact ⟨rfl,below_drewN (below_drewN (bR _ _) _) _⟩
 ·have d1:((b.size:Int) != (((a+7) / 8:Nat):Int))=true:=by simp;omega
  have hE:Cd.end_ b a=false:=by simp [Cd.end_,h1]
  rw [hE];generalize (a+7) / 8=q at *;clear h1 hE;go_enter Tryz.func175,Tryz.ntmps175
  go_wp2_with fail
  go_quiet (fail)
  go_wp2_with fail
  go_ret
  exact ⟨rfl,below_drewN (bR _ _) _⟩
end Go.Proofs.YtbjbjbpgmojcbacGreat
namespace Go.Proofs.YtbjbjbpgmojcbacGreat.Cd
theorem Zta {f ws:Nat->Int} {b:ByteArray}:∀ (m:Nat) (n word:Int) (a:Nat),a<=8*b.size->(sgn f ws b m n word a).2<=8*b.size:=by
 intro m
 induction m with
 | zero=>intro n word a h;exact h
 | succ m ih =>
  intro n word a h;by_cases h0:8*b.size<=a
  ·rw [Ziv h0];exact h
  ·cases h1:fnd f ws n (2*word+ZH b a) with
   | none=>rw [ZdI h0 h1];exact ih _ _ _ (by omega)
   | some s=>rw [ZdH h0 h1];show a+1<=_;omega
def s15 (f:Nat->Int) (b:ByteArray) (a:Nat):Int × Nat:=sgn f (wds f) b 15 1 0 a
def rdK (f:Nat->Int) (b:ByteArray):Nat->Option (List UInt8 × Nat)
 | 0=>some ([],0)
 | k+1=>match rdK f b k with
  | none=>none
  | some (o,a)=>if (s15 f b a).1=-1\/(s15 f b (s15 f b a).2).1=-1 then none else some (o++[UInt8.ofNat ((s15 f b a).1*16+(s15 f b (s15 f b a).2).1).toNat],(s15 f b (s15 f b a).2).2)
theorem Zow {f:Nat->Int} {b:ByteArray} {k:Nat} (h:rdK f b k=none):∀ j,rdK f b (k+j)=none:=by
 intro j
 induction j with
 | zero=>exact h
 | succ j ih=>rw [<-Nat.add_assoc,rdK,ih]
theorem Zfr {f:Nat->Int} {b:ByteArray} {k a a1 a2:Nat} {o:List UInt8} {x y:Int} (h:rdK f b k=some (o,a)) (h1:s15 f b a=(x,a1)) (h2:s15 f b a1=(y,a2)) (hx:¬ (x=-1\/y=-1)):rdK f b (k+1)=some (o++[UInt8.ofNat (x*16+y).toNat],a2):=by
 rw [rdK,h];simp only [h1,h2];rw [if_neg hx]
theorem Zfw {f:Nat->Int} {b:ByteArray} {k n a a1 a2:Nat} {o:List UInt8} {x y:Int} (hk:k<n) (h:rdK f b k=some (o,a)) (h1:s15 f b a=(x,a1)) (h2:s15 f b a1=(y,a2)) (hx:x=-1\/y=-1):rdK f b n=none:=by
 have:rdK f b (k+1)=none:=by
  rw [rdK,h];simp only [h1,h2];rw [if_pos hx]
 have h2:=Zow this (n - (k+1))
 rwa [show k+1+(n - (k+1))=n by omega] at h2
def rd (f:Nat->Int) (b:ByteArray) (n:Int):ByteArray × Int :=
 if chk f ≠ 0 then (⟨#[]⟩,chk f) else if n<0\/1024<n then (⟨#[]⟩,3) else match rdK f b n.toNat with
  | none=>(⟨#[]⟩,1)
  | some (o,a)=>if end_ b a=true then (⟨o.toArray⟩,0) else (⟨#[]⟩,1)
theorem ZaS {f:Nat->Int} {b:ByteArray} {n:Int} (hc:chk f=0) (hn:¬ (n<0\/1024<n)) (h:rdK f b n.toNat=none):rd f b n=(⟨#[]⟩,1):=by
 rw [rd,if_neg (fun h=>h hc),if_neg hn,h]
theorem Zbl {f:Nat->Int} {b:ByteArray} {n:Int} {o:List UInt8} {a:Nat} (hc:chk f=0) (hn:¬ (n<0\/1024<n)) (h:rdK f b n.toNat=some (o,a)):rd f b n=if end_ b a=true then (⟨o.toArray⟩,0) else (⟨#[]⟩,1):=by
 rw [rd,if_neg (fun h=>h hc),if_neg hn,h]
end Go.Proofs.YtbjbjbpgmojcbacGreat.Cd
