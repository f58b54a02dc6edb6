/- A part of the proof: what it leans on. -/
import Derived.Laws.StructEq
import Derived.Test.YtbjbjbpgmojcbacGreatDoorDk05
set_option maxRecDepth 4000
set_option maxHeartbeats 2000000
namespace Go.Proofs.YtbjbjbpgmojcbacGreatDoor
open Ar Bk Cd Dk Im Tk Tr Vy
open Tryz
variable{b:ByteArray}{n:Int}{xs ys:List Bool}{q:List UInt8}{I a a1 g j k:Nat}{h:Nat->ByteArray}{f:Nat->Int}{v:Value}{w:World}
open Go.RowKit
def aQ(h:Nat->ByteArray):Array Value:=((List.range 16).map λi=>Value.string (h i)).toArray
theorem p6(h:Nat->ByteArray):(aQ h).size=16:=by simp[aQ]
theorem yq(h:Nat->ByteArray)(i:Nat)(hi:i<16):(aQ h)[i]?=some (.string (h i)):=by simp[aQ,hi]
theorem Lj:(prog.info? 172).map (·.size)=some 16:=by kernel_rfl
theorem yr(h:Nat->ByteArray):(prog.info? 172).map (·.size)=some (aQ h).size:=by rw[p6];exact Lj
theorem Ll{g:Nat->ByteArray}(e:∀i,i<16->h i=g i):aQ h=aQ g:=by
 unfold aQ
 congr 1
 apply List.map_congr_left;intro i hi;rw[e i (List.mem_range.1 hi)]
def updB(h:Nat->ByteArray)(k:Nat)(v:ByteArray):Nat->ByteArray:=λi=>if i=k then v else h i
theorem Lm(h:Nat->ByteArray)(k:Nat)(v:ByteArray):(aQ h).setIfInBounds k (.string v)=aQ (updB h k v):=by
 apply Array.ext_getElem?;intro i;rw[Array.getElem?_setIfInBounds,p6];by_cases hi:i<16
 ·rw[yq _ i hi,yq _ i hi];by_cases e:k=i
  ·subst e;simp[updB,hi]
  ·have e':¬i=k:=λh=>e h.symm
   simp[updB,e,e']
 ·have h1:(aQ h)[i]?=none:=by rw[Array.getElem?_eq_none];rw[p6];omega
  have h2:(aQ (updB h k v))[i]?=none:=by rw[Array.getElem?_eq_none];rw[p6];omega
  rw[h1,h2];split
  ·rename_i e;subst e;simp[hi]
  ·rfl
theorem yt:(#[.string ⟨#[]⟩,.string ⟨#[]⟩,.string ⟨#[]⟩,.string ⟨#[]⟩,.string ⟨#[]⟩,.string ⟨#[]⟩,.string ⟨#[]⟩,.string ⟨#[]⟩,.string ⟨#[]⟩,.string ⟨#[]⟩,.string ⟨#[]⟩,.string ⟨#[]⟩,.string ⟨#[]⟩,.string ⟨#[]⟩,.string ⟨#[]⟩,.string ⟨#[]⟩]:Array Value)=aQ (λ_=>⟨#[]⟩):=rfl
theorem yu(h:Nat->ByteArray):(aQ h).all (·.oneCell')=true:=by
 rw[Array.all_eq_true_iff_forall_mem];intro v hv;simp[aQ]at hv;obtain⟨i,_,rfl⟩:=hv;rfl
def aW(w:World)(g:Nat)(h:Nat->ByteArray):Prop:=g<w.heap.size/\w.heap[g]?=some (.cells (aQ h) 172 (0,0))
theorem aW.new(w:World)(h:Nat->ByteArray):aW (w.alloc (.cells (aQ h) 172)) w.heap.size h:=⟨by simp,heap_alloc_last w _⟩
theorem aW.below{w':World}(H:aW w g h)(hb:ae w w'):aW w' g h:=⟨Nat.lt_of_lt_of_le H.1 hb.size,by rw[hb.block g H.1];exact H.2⟩
theorem aW.alloc(H:aW w g h)(o:Obj):aW (w.alloc o) g h:=H.below ((Below.refl _ _).alloc (Nat.le_refl _) o)
theorem aW.cell(H:aW w g h)(k:Nat)(hk:k<16):w.cell? ⟨g,k,none⟩=some (.string (h k)):=by rw[cell_of_row w g k _ _ _ H.2,yq h k hk]
theorem aW.frozen(H:aW w g h)(k:Nat):w.frozen? ⟨g,k,none⟩=false:=by simp[World.frozen?,H.2]
theorem aW.set(H:aW w g h)(k:Nat)(v:ByteArray):aW (w.setCell ⟨g,k,none⟩ (.string v)) g (updB h k v):=by
 refine⟨by have:=H.1;simpa[World.setCell]using this,?_⟩;rw[rH H.2,Lm]
theorem aW.aq(H:aW w g h){q:Nat}(hq:q≠g)(k:Nat)(v:Value):aW (w.setCell ⟨q,k,none⟩ v) g h:=by
 refine⟨by have:=H.1;simpa[World.setCell]using this,?_⟩;rw[rI hq];exact H.2
theorem aW.setRow(H:aW w g h)(h':Nat->ByteArray):aW (w.setRow g (aQ h')) g h':=by
 refine⟨by have:=H.1;simpa[World.setRow]using this,?_⟩;show(w.heap.modify g _)[g]?=_;rw[Array.getElem?_modify,ax rfl,H.2];rfl
theorem aW.congr{h':Nat->ByteArray}(H:aW w g h)(e:∀i,i<16->h i=h' i):aW w g h':=⟨H.1,by rw[H.2,Ll e]⟩
namespace Cd
def Ye(f:Nat->Int)(n k:Nat)(i:Nat):ByteArray:=if(1<=f i/\f i<=(n:Int))\/(f i=((n+1:Nat):Int)/\i<k) then VD (VR f i) else⟨#[]⟩
theorem Ln(f:Nat->Int)(h:Wk f 15 16)(i:Nat)(hi:i<16):(⟨#[]⟩:ByteArray)=Ye f 0 0 i:=by
 have:=h i hi;rw[Ye,ab (by omega)]
theorem Lo(f:Nat->Int)(n k:Nat)(h:f k=((n+1:Nat):Int))(i:Nat):updB (Ye f n k) k (VD (VR f k)) i=Ye f n (k+1) i:=by
 unfold updB Ye;by_cases e:i=k
 ·subst e;rw[ax rfl,ax (by omega)]
 ·rw[ab e];by_cases h1:(1<=f i/\f i<=(n:Int))\/(f i=((n+1:Nat):Int)/\i<k)
  ·rw[ax h1,ax (by omega)]
  ·rw[ab h1,ab (by omega)]
theorem Lp(f:Nat->Int)(n k:Nat)(h:¬f k=((n+1:Nat):Int))(i:Nat):Ye f n k i=Ye f n (k+1) i:=by
 unfold Ye;by_cases e:i=k
 ·subst e;by_cases h1:1<=f i/\f i<=(n:Int)
  ·rw[ax (.inl h1),ax (.inl h1)]
  ·rw[ab (by omega),ab (by omega)]
 ·by_cases h1:(1<=f i/\f i<=(n:Int))\/(f i=((n+1:Nat):Int)/\i<k)
  ·rw[ax h1,ax (by omega)]
  ·rw[ab h1,ab (by omega)]
theorem Lq(f:Nat->Int)(n:Nat)(i:Nat)(hi:i<16):Ye f n 16 i=Ye f (n+1) 0 i:=by
 unfold Ye;by_cases h1:(1<=f i/\f i<=(n:Int))\/(f i=((n+1:Nat):Int)/\i<16)
 ·rw[ax h1,ax (by omega)]
 ·rw[ab h1,ab (by omega)]
theorem Lr(f:Nat->Int)(h:Wk f 15 16)(i:Nat)(hi:i<16):Ye f 15 0 i=VD (VR f i):=by
 have:=h i hi;unfold Ye;by_cases h0:f i=0
 ·rw[ab (by omega),VR,h0];rfl
 ·rw[ax (by omega)]
theorem Ls(f:Nat->Int)(n:Int)(x:Int×(Nat->Int))(k:Nat)(h:f k=n):∀j,(wI f n x (k+1+j)).2 k=(wI f n x k).1:=by
 intro j
 induction j with
 |zero=>rw[Nat.add_zero,wI,ax h];exact ZL _ _ _
 |succ j ih =>
  rw[<-Nat.add_assoc,wI];split
  ·simp only;rw[Zl _ _ (by omega)];exact ih
  ·exact ih
theorem Lt{n:Nat}(hk:k<16)(hn:n+1<=15)(h:f k=((n+1:Nat):Int)):VM f k=(wI f ((n+1:Nat):Int) ((wO f n).1*2,(wO f n).2) k).1:=by
 have h1:=uO f k n h (15-(n+1));rw[show n+1+(15-(n+1))=15 by omega]at h1;rw[VM,h1,wO];have h2:=Ls f ((n+1:Nat):Int) ((wO f n).1*2,(wO f n).2) k h (15-k);rw[show k+1+(15-k)=16 by omega]at h2;exact h2
end Cd
theorem Lu(w:World)(f:Nat->Int):ai (((w.alloc (.cells (arr f) 142)).alloc (.cells (aQ λ_=>⟨#[]⟩) 172)).alloc (.cells (aQ λ_=>⟨#[]⟩) 172)) w.heap.size f ∧
 aW (((w.alloc (.cells (arr f) 142)).alloc (.cells (aQ λ_=>⟨#[]⟩) 172)).alloc (.cells (aQ λ_=>⟨#[]⟩) 172)) (w.heap.size+1) (λ_=>⟨#[]⟩) ∧
 aW (((w.alloc (.cells (arr f) 142)).alloc (.cells (aQ λ_=>⟨#[]⟩) 172)).alloc (.cells (aQ λ_=>⟨#[]⟩) 172)) (w.heap.size+1+1) (λ_=>⟨#[]⟩) ∧
 ae w (((w.alloc (.cells (arr f) 142)).alloc (.cells (aQ λ_=>⟨#[]⟩) 172)).alloc (.cells (aQ λ_=>⟨#[]⟩) 172)):=by
 have a:=aW.new (w.alloc (.cells (arr f) 142)) (λ_=>⟨#[]⟩);have b:=aW.new ((w.alloc (.cells (arr f) 142)).alloc (.cells (aQ λ_=>⟨#[]⟩) 172)) (λ_=>⟨#[]⟩);refine⟨((ai.new w f).alloc _).alloc _,?_,?_,(((bR _ _).alloc (nl _) _).alloc (by simp) _).alloc (by simp;omega) _⟩
 ·have:=a.alloc (.cells (aQ λ_=>⟨#[]⟩) 172);simpa using this
 ·simpa using b
theorem DL(f:Nat->Int)(w:World)(hR:Wk f 15 16) :
 CB 164 #[.agg (arr f)] w (.agg (aQ λi=>VD (VR f i))):=by
 obtain⟨R1,R2,R3,HB⟩:=Lu w f;rw[<-yt]at R1 R2 R3 HB;have HR:=Za hR;clear hR
 obtain⟨hS,iP⟩:∃h,(λi=>VD (VR f i))=h:=⟨_,rfl⟩
 rw[iP];have HS:=Za iP;clear iP;go_enter func164,ntmps164
 go_wp2_with fail
 rw[yt]at R1 R2 R3 HB;rw[yt];generalize ((w.alloc (.cells (arr f) 142)).alloc (.cells (aQ λ_=>⟨#[]⟩) 172)).alloc (.cells (aQ λ_=>⟨#[]⟩) 172)=w0 at*
 obtain⟨g1,hg1⟩:∃g1,g1=w.heap.size:=⟨_,rfl⟩
 have hq1:Hid (g1<w.heap.size+1/\w.heap.size+1<w.heap.size+1+1/\w.heap.size<=g1):=by show _/\_/\_;omega
 generalize w.heap.size+1+1=g3 at*;generalize w.heap.size+1=g2 at*;clear hg1;have R3':=R3.congr (h':=Ye f 0 0) (λi hi=>Cd.Ln f HR.out i hi);go_loopw [4,5,6] (λx l i wr=>∃(n:Nat) (N1 X L:Int),n<=15/\i=.int .i64 N1/\Hid (N1=(n+1:Nat))/\x=.int .i64 X/\l=.int .i64 L/\0<=X/\0<=L/\Hid (L<=n/\X*2^(n-L.toNat)=(wO f n).1)/\ai wr w.heap.size f/\aW wr g2 (λ_=>⟨#[]⟩)/\aW wr g3 (Ye f n 0)/\ae w wr) (λ_ _ i _=>20-(intOf i).toNat)
 case atStart=>exact⟨0,1,0,0,by omega,rfl,rfl,rfl,rfl,by omega,by omega,⟨by omega,by simp[wO]⟩,R1,R2,R3',HB⟩
 case round =>
  clear R1 R2 R3 R3' HB;obtain⟨n,N1,X,L,hn,rfl,ee,rfl,rfl,hX,hL,HX,R1,R2,R3,HB⟩:=hrel;have hNb:1<=N1/\N1<=16:=by have:=ee.out;omega
  by_cases hlt:n<15
  ·have hk1:decide (N1<=15)=true:=by have:=ee.out;simp;omega
   have Hn:=Za hlt
   have HX0:Hid (L<=((n+1:Nat):Int)/\X*2^(n+1-L.toNat)=(wI f ((n+1:Nat):Int) ((wO f n).1*2,(wO f n).2) 0).1):=by
    obtain⟨h1,h2⟩:=HX.out;refine⟨by omega,?_⟩;show _=(wO f n).1*2;rw[<-h2,show n+1-L.toNat=(n-L.toNat)+1 by omega,Int.pow_succ,Int.mul_assoc]
   clear hn hlt;go_wp2_with fail
   go_loopw [4,5,7] (λx l i wr=>∃(k:Nat) (X L:Int),k<=16/\i=.int .i64 k/\x=.int .i64 X/\l=.int .i64 L/\0<=X/\0<=L/\Hid (L<=((n+1:Nat):Int)/\X*2^(n+1-L.toNat)=(wI f ((n+1:Nat):Int) ((wO f n).1*2,(wO f n).2) k).1)/\ai wr w.heap.size f/\aW wr g2 (λ_=>⟨#[]⟩)/\aW wr g3 (Ye f n k)/\ae w wr) (λ_ _ i _=>16-(intOf i).toNat)
   case atStart=>exact⟨0,X,L,by omega,rfl,rfl,rfl,hX,hL,HX0,R1,R2,R3,HB⟩
   case round =>
    clear R1 R2 R3 HB HX HX0 hX hL;obtain⟨k,X,L,hk,rfl,rfl,rfl,hX,hL,HX,R1,R2,R3,HB⟩:=hrel;by_cases hlt2:k<16
    ·have hk2:=al (by omega:(k:Int)<16);have hk3:=al (by omega:k<16);have hc1:=R1.cell k hlt2;by_cases hx:f k=N1
     ·have d1:(f k==N1)=true:=by simpa using hx
      have hfn:f k=((n+1:Nat):Int):=by rw[hx];exact ee.out
      have hw:=Cd.Lt hlt2 (by have:=Hn.out;omega) hfn;have hwv:=rJ f k
      obtain⟨d,hd⟩:∃d:Nat,n+1-L.toNat=d:=⟨_,rfl⟩
      have UN:N1-L=(d:Int):=by have:=ee.out;have:=HX.out.1;omega
      have DM:X*2^d=VM f k:=by rw[hw,<-HX.out.2,hd]
      have hbt:=λw=>DK (n+1) (VM f k) w hwv.1 hwv.2 (by have:=Hn.out;omega)
      rw[<-ee.out]at hbt;have hcw:WN (VM f k) (n+1)=VR f k:=by rw[VR,hfn];rfl
      rw[hcw]at hbt;have R4:=λwx (h:aW wx g3 (Ye f n k))=>(h.set k (VD (VR f k))).congr (λi _=>Cd.Lo f n k hfn i)
      have HW:Hid ((n+1:Nat)<=((n+1:Nat):Int)/\(VM f k+1)*2^(n+1-(n+1))=(wI f ((n+1:Nat):Int) ((wO f n).1*2,(wO f n).2) (k+1)).1):=by
       refine⟨by omega,?_⟩;rw[wI,ax hfn,Nat.sub_self,Int.pow_zero,Int.mul_one,hw]
      generalize VD (VR f k)=sk at*;generalize f k=z at*;clear hfn hw hcw;have UO:L<=N1:=by omega
      have Lv:d<=15:=by have:=ee.out;have:=Hn.out;omega
      clear hd;generalize VM f k=wk at*;go_wp2_with fail
      refine mo (hbt _) λw4 G4=>?_
      have T1:=R1.below G4;have T2:=R2.below G4;have T3:=R3.below G4;have B4:=ag HB G4;have hc3:=T3.cell k hlt2;have hf3:=T3.frozen k;have U3:=R4 _ T3;have U1:=T1.aq (q:=g3) (by have:=hq1.out;omega) k (.string sk);have U2:=T2.aq (q:=g3) (by have:=hq1.out;omega) k (.string sk);have B5:=B4.setCell (p:=⟨g3,k,none⟩) (by have:=hq1.out;show _<=g3;omega) (.string sk);clear R1 R2 R3 HB G4 T1 T2 T3 B4 R4 hbt hx;go_wp2_with fail
      go_roundw
      case rel=>exact⟨k+1,wk+1,N1,by omega,by go_num,rfl,rfl,by omega,by omega,by rw[ee.out];exact⟨HW.out.1,by rw[Int.toNat_natCast];exact HW.out.2⟩,U1,U2,U3,B5⟩
      case measure=>simp[intOf];omega
     ·have d1:(f k==N1)=false:=by simpa using hx
      have HS:Hid (¬f k=((n+1:Nat):Int)):=λh=>hx (by rw[h];exact ee.out.symm)
      have HW:Hid (L<=((n+1:Nat):Int)/\X*2^(n+1-L.toNat)=(wI f ((n+1:Nat):Int) ((wO f n).1*2,(wO f n).2) (k+1)).1):=by
       refine⟨HX.out.1,?_⟩;rw[wI,ab HS.out];exact HX.out.2
      have R4:=R3.congr (h':=Ye f n (k+1)) (λi _=>Lp f n k HS.out i);generalize f k=z at*;clear hx HS;go_wp2_with fail
      go_roundw
      case rel=>exact⟨k+1,X,L,by omega,by go_num,rfl,rfl,hX,hL,HW,R1,R2,R4,HB⟩
      case measure=>simp[intOf];omega
    ·obtain rfl:k=16:=by omega
     have R4:=R3.congr (h':=Ye f (n+1) 0) (λi hi=>Cd.Lq f n i hi);have HW:Hid (L<=((n+1:Nat):Int)/\X*2^(n+1-L.toNat)=(wO f (n+1)).1):=HX.out;have xx:Hid (N1+1=(n+1+1:Nat)):=by have:=ee.out;show _=_;omega
     go_wp2_with fail
     go_roundw
     case rel=>exact⟨n+1,N1+1,X,L,by have:=Hn.out;omega,by go_num,xx,rfl,rfl,hX,hL,HW,R1,R2,R4,HB⟩
     case measure=>simp[intOf];omega
  ·obtain rfl:n=15:=by omega
   obtain rfl:N1=16:=by have:=ee.out;omega
   have R4:aW wr g3 hS:=R3.congr (λi hi=>by rw[Lr f HR.out i hi,<-HS.out]);have hi1:=yr hS;clear R3;go_wp2_with (first|refine wpList_load_row rfl 172 _ rfl g3 rfl 172 (aQ hS) (0,0) _ R4.2 eh rfl hi1 ?_|refine wpList_store_row rfl 172 _ _ rfl g2 (aQ hS) rfl rfl 172 _ R2.2 hi1 (by rw[p6,p6]) (yu _) ?_)
   have U2:=R2.setRow hS;exact bodyPost_ret (v:=.agg (aQ hS)) (results_cell_row results164 _ _ g2 172 _ (0,0) _ rfl U2.2 eh rfl hi1) rfl ⟨rfl,Zu HB (by have:=hq1.out;omega) _⟩
namespace Cd
theorem Lw(bs:List Bool)(k:Nat)(h:k<(VD bs).size):((VD bs)[k]).toNat=48+aau bs k:=by
 have hl:k<bs.length:=by rw[jM]at h;exact h
 have e:(VD bs)[k]=chr (bs[k]):=by
  show(bs.map chr).toArray[k]'(by simpa using hl)=_;simp
 rw[e,aau,List.getD_eq_getElem?_getD,List.getElem?_eq_getElem hl];show _=48+WE bs[k]
 cases bs[k]<;>rfl
theorem Lx(bs:List Bool)(p i:Nat):aau (bs++List.replicate p false) i=aau bs i:=by
 by_cases h:i<bs.length
 ·exact yi h
 ·rw[ji bs (by omega)]
  obtain⟨j,rfl⟩:∃j,i=bs.length+j:=⟨i-bs.length,by omega⟩
  rw[yj,aau,List.getD_eq_getElem?_getD];by_cases h2:j<p
  ·rw[List.getElem?_replicate,ax h2];rfl
  ·rw[List.getElem?_replicate,ab h2];rfl
def vb(bs:List Bool)(a:Nat):Nat->Nat
 |0=>0
 |r+1=>2*vb bs a r+aau bs (a+r)
theorem Ly(bs:List Bool)(a:Nat):∀r,vb bs a r<2^r:=by
 intro r
 induction r with
 |zero=>simp[vb]
 |succ r ih=>have:=eH bs (a+r);rw[vb,Nat.pow_succ];omega
theorem gz(bs:List Bool)(a:Nat){r:Nat}(h:r<=8):vb bs a r<=255:=by
 have h1:=Ly bs a r;have h2:2^r<=2^8:=Nat.pow_le_pow_right (by omega) h;omega
theorem LA(bs:List Bool)(j:Nat):vb bs (8*j) 8=eI bs j:=by
 simp only[vb,eI,Nat.add_zero];omega
theorem LB(bs:List Bool){j:Nat}(h:j<(bs.length+7)/8):(Wc bs).take (j+1)=(Wc bs).take j++[UInt8.ofNat (eI bs j)]:=by
 rw[List.take_add_one,pQ bs h];rfl
end Cd
theorem LC(f:Nat->Int)(s:ByteArray)(w:World)(h0:Wj f=0)(hs:s.size<=1024) :
 CB 166 #[.agg (arr f),.string s] w (.tuple #[.string (VO f s).1,.int .i64 (VO f s).2]):=by
 have hck:=λw=>rh f w
 rw[h0]at hck;have hR:=Za ((Yc h0).1);have hwd:=λw=>DL f w hR.out
 obtain⟨hS,iP⟩:∃h,(λi=>VD (VR f i))=h:=⟨_,rfl⟩
 rw[iP]at hwd;have HS:=Za iP;clear iP;have hin:=Zh f;have iN:=yr hS;have h0':=Za h0;have hs':(s.size:Int)<=1024:=by omega
 have ds:=dF (by omega:¬(1024<(s.size:Int)));have R1:=ai.new w f;have HB:ae w (w.alloc (.cells (arr f) 142)):=(bR _ _).alloc (nl _) _
 obtain⟨r1,r2,hr⟩:∃r1 r2,VO f s=(r1,r2):=⟨_,_,rfl⟩
 rw[hr];have Hr:=Za hr;clear hr h0;go_enter func166,ntmps166
 go_wp2_with (refine wpList_load_row rfl 142 _ rfl w.heap.size rfl 142 (arr f) (0,0) _ R1.2 aF rfl hin ?_)
 refine mo (hck _) λw1 G1=>?_
 have S1:=R1.below G1;have B1:=ag HB G1;clear R1 HB G1 hck;go_wp2_with (refine wpList_load_row rfl 142 _ rfl w.heap.size rfl 142 (arr f) (0,0) _ S1.2 aF rfl hin ?_)
 refine mo (hwd _) λw2 G2=>?_
 have T1:=S1.below G2;have B2:=ag B1 G2;clear S1 B1 G2 hwd;go_wp2_with (refine wpList_store_row rfl 172 _ _ rfl w2.heap.size (aQ hS) rfl rfl 172 _ (heap_alloc_last w2 _) iN rfl (yu _) ?_;rw[World.setRow_alloc_new])
 have T7:=aW.new w2 hS;have T2:=T1.alloc (.cells (aQ hS) 172);have B3:ae w (w2.alloc (.cells (aQ hS) 172)):=B2.alloc (nL T1.1) _;clear T1 B2;generalize w2.alloc (.cells (aQ hS) 172)=w3 at*;generalize w2.heap.size=g7 at*;go_loopw [8,9] (λb i wr=>∃(k:Nat) (bs:List Bool),k<=s.size/\i=.int .i64 k/\b=.string (VD bs)/\Hid (Yd f s k=some bs)/\ai wr w.heap.size f/\aW wr g7 hS/\ae w wr) (λ_ i _=>s.size-(intOf i).toNat)
 case atStart=>exact⟨0,[],by omega,rfl,rfl,rfl,T2,T7,B3⟩
 case round =>
  clear T2 T7 B3;obtain⟨k,bs,hk,rfl,rfl,hW,T2,T7,B3⟩:=hrel;have Hlen:=Za (pV hR.out k bs hW.out);by_cases hlt:k<s.size
  ·have hk1:=al (by omega:(k:Int)<(s.size:Int));have hk2:=al (by omega:k<s.size)
   obtain⟨x,hx⟩:∃x:Int,(s[k].toNat:Int)=x:=⟨_,rfl⟩
   have hA:Cd.at8 s k=s[k].toNat:=by unfold Cd.at8;rw[ZX s k hlt];rfl
   have hA2:=Xf s k;have hx0:0<=x:=by omega
   have hx1:x<=255:=by omega
   obtain⟨H,hH⟩:∃H,Cd.at8 s k/16=H:=⟨_,rfl⟩
   obtain⟨L,hL⟩:∃L,Cd.at8 s k%16=L:=⟨_,rfl⟩
   have e1:x/16=(H:Int):=by omega
   have e2:x%16=(L:Int):=by omega
   have e3:x.tdiv 16=(H:Int):=by rw[Int.tdiv_eq_ediv_of_nonneg hx0];exact e1
   have e4:x.tmod 16=(L:Int):=by rw[Int.tmod_eq_emod_of_nonneg hx0];exact e2
   have hH1:H<16:=by omega
   have hL1:L<16:=by omega
   have hH2:(H:Int)<16:=by omega
   have hL2:(L:Int)<16:=by omega
   have HN:Hid (¬(f H=0\/f L=0)->Yd f s (k+1)=some (bs++VR f H++VR f L)):=λh=>by have:=xX hW.out (by rw[hH,hL];exact h);rw[hH,hL]at this;exact this
   have yv:Hid (f H=0\/f L=0->r1=⟨#[]⟩/\r2=5):=λh=>by
    have h9:VO f s=(⟨#[]⟩,5):=by
     rw[VO,ab (λh=>h h0'.out),ab (by omega),Di hlt hW.out (by rw[hH,hL];exact h)]
    have h8:=Hr.out.symm.trans h9;simpa using h8
   clear hA hA2 hH hL e1 e2;have c1:=T2.cell H hH1;have c2:=T2.cell L hL1;by_cases hz:f H=0
   ·obtain⟨rfl,rfl⟩:=yv.out (.inl hz);rw[hz]at c1;clear hz c2;go_wp2_with fail
    go_ret2
    exact⟨rfl,B3⟩
   ·have d1:(f H==0)=false:=by simpa using hz
    by_cases hy:f L=0
    ·obtain⟨rfl,rfl⟩:=yv.out (.inr hy);rw[hy]at c2;clear hz hy;go_wp2_with fail
     go_ret2
     exact⟨rfl,B3⟩
    ·have d2:(f L==0)=false:=by simpa using hy
     have cK:=Za (HN.out (λh=>h.elim hz hy));have c3:wr.cell? ⟨g7,H,none⟩=some (.string (VD (VR f H))):=by rw[T7.cell H hH1,<-HS.out]
     have c4:wr.cell? ⟨g7,L,none⟩=some (.string (VD (VR f L))):=by rw[T7.cell L hL1,<-HS.out]
     have LD:(VD bs).size<=30720:=by rw[jM];have:=Hlen.out;omega
     have fy:(VD (VR f H)).size<=15:=by rw[jM];exact rM hR.out hH1
     have UP:(VD (VR f L)).size<=15:=by rw[jM];exact rM hR.out hL1
     have HE:Hid (VD bs++VD (VR f H)++VD (VR f L)=VD (bs++VR f H++VR f L)):=by show _=_;rw[rX,rX]
     have sb1:¬9223372036854775807<(VD bs).size+(VD (VR f H)).size:=by omega
     have UQ:¬9223372036854775807<(VD bs).size+(VD (VR f H)).size+(VD (VR f L)).size:=by omega
     generalize VD (VR f H)=sH at*;generalize VD (VR f L)=sL at*;generalize VD bs=sB at*;clear hz hy yv HN;go_wp2_with fail
     go_quiet (fail)
     go_wp2_with fail
     exact⟨⟨k+1,_,by omega,by go_num,by rw[HE.out],cK,T2.below (below_drewN (bR _ _) _),T7.below (below_drewN (bR _ _) _),below_drewN B3 _⟩,by simp[intOf];omega⟩
  ·obtain rfl:k=s.size:=by omega
   have h9:VO f s=(⟨(Wc bs).toArray⟩,0):=by
    rw[VO,ab (λh=>h h0'.out),ab (by omega),hW.out]
   have h8:=Hr.out.symm.trans h9;simp only[Prod.mk.injEq]at h8;obtain⟨rfl,rfl⟩:=h8;have hbl:bs.length<=30720:=by have:=Hlen.out;omega
   clear h9 T2 T7 hW Hlen hin iN;have uQ:=Za hbl;have hst:VD bs=VD (bs++List.replicate 0 false):=by simp
   rw[hst];clear hst;go_wp2_with fail
   go_loopg [8] ((8-bs.length%8)%8) (λn b wx=>∃p:Nat,b=.string (VD (bs++List.replicate p false))/\Hid (p+n=(8-bs.length%8)%8)/\wr=wx)
   case atStart=>exact⟨0,rfl,by show _=_;omega,rfl⟩
   case round =>
    obtain⟨p,rfl,Hp,rfl⟩:=hrel;have lK:Hid ((VD (bs++List.replicate p false)).size=bs.length+p):=by show _=_;rw[jM];simp
    have HE:Hid (VD (bs++List.replicate p false)++⟨#[48]⟩=VD (bs++List.replicate (p+1) false)):=by
     show _=_;have:(⟨#[48]⟩:ByteArray)=VD [false]:=rfl;rw[this,rX,List.append_assoc,List.replicate_succ']
    have hsz:(VD (bs++List.replicate p false)).size<=30730:=by have:=lK.out;have:=Hp.out;omega
    by_cases hn:gk=0
    ·have uR:Hid (∃m,(VD (bs++List.replicate p false)).size=8*m/\m=(bs.length+7)/8):=by
      have h1:=lK.out;have h2:=Hp.out;show ∃m,_;exact⟨(bs.length+7)/8,by omega,rfl⟩
     have hm:((VD (bs++List.replicate p false)).size:Int).tmod 8=0:=by
      obtain⟨m,h1,_⟩:=uR.out;rw[h1,Int.tmod_eq_emod_of_nonneg (by omega)];omega
     have hm2:((VD (bs++List.replicate p false)).size:Int)%8=0:=by
      obtain⟨m,h1,_⟩:=uR.out;rw[h1];omega
     have HAt:Hid (∀q (h:q<(VD (bs++List.replicate p false)).size),((VD (bs++List.replicate p false))[q]).toNat=48+aau bs q):=λq h=>by rw[Cd.Lw _ q h,Cd.Lx]
     generalize VD (bs++List.replicate p false)=sP at*;clear HE Hp;obtain⟨m,ml,yw⟩:∃m,Hid (sP.size=8*m)/\Hid (m=(bs.length+7)/8):=by obtain⟨m,h1,h2⟩:=uR.out;exact⟨m,h1,h2⟩
     have hmb:m<=4000:=by have:=yw.out;have:=uQ.out;omega
     clear uR lK hn;go_wp2_with fail
     go_loopw [10,11] (λo i wx=>∃(j:Nat) (I:Int),j<=m/\i=.int .i64 I/\Hid (I=8*(j:Int))/\0<=I/\I<=32000/\o=.string ⟨((Wc bs).take j).toArray⟩/\ae w wx) (λ_ i _=>40000-(intOf i).toNat)
     case atStart=>exact⟨0,0,by omega,rfl,rfl,by omega,by omega,by simp,B3⟩
     case round =>
      clear B3;obtain⟨j,I,hj,rfl,HI,hI0,hI1,rfl,B3⟩:=hrel;by_cases hjm:j<m
      ·have dI:decide (I<(sP.size:Int))=true:=by have:=HI.out;have:=ml.out;simp;omega
       have LF:Hid (8*j+8<=sP.size):=by have:=ml.out;show _<=_;omega
       have rY:Hid (I=((8*j:Nat):Int)):=by have:=HI.out;show _=_;omega
       go_wp2_with fail
       go_loop [12,13] (λa b=>∃(r q:Nat),r<=8/\Hid (q=8*j+r)/\q<=33000/\b=.int .i64 (q:Nat)/\a=.int .i64 (Cd.vb bs (8*j) r:Nat)) (λ_ b=>40000-(intOf b).toNat)
       case atStart=>exact⟨0,8*j,by omega,rfl,by omega,by rw[rY.out],rfl⟩
       case round =>
        obtain⟨r,q,hr,Hq,pC,rfl,rfl⟩:=hrel;have hv:=Cd.gz bs (8*j) hr;by_cases Dm:r<8
        ·have dq:decide ((q:Int)<I+8)=true:=by have:=Hq.out;have:=rY.out;simp;omega
         have DN:q<sP.size:=by have:=Hq.out;have:=LF.out;omega
         have LG:(q:Int)<(sP.size:Int):=by omega
         obtain⟨y,hy⟩:∃y:Int,(sP[q].toNat:Int)=y:=⟨_,rfl⟩
         have hyb:y=48+(aau bs q:Nat):=by rw[<-hy,HAt.out q DN];omega
         have hbq:=eH bs q;have hy0:48<=y:=by omega
         have hy1:y<=49:=by omega
         have HV:Hid ((Cd.vb bs (8*j) (r+1):Nat)=2*((Cd.vb bs (8*j) r:Nat):Int)+(y-48)):=by
          show _=_;rw[Cd.vb,hyb,<-Hq.out];omega
         generalize Cd.vb bs (8*j) r=v at*;clear hyb hbq;have DO:Hid (q+1=8*j+(r+1)/\q+1<=33000):=by have:=Hq.out;have:=rY.out;show _/\_;omega
         go_wp2_with fail
         exact⟨⟨r+1,q+1,by omega,DO.out.1,DO.out.2,by go_num,by rw[HV.out]⟩,by simp[intOf];omega⟩
        ·obtain rfl:r=8:=by omega
         have dq:decide ((q:Int)<I+8)=false:=by have:=Hq.out;have:=rY.out;simp;omega
         have HT:Hid (((Wc bs).take (j+1))=(Wc bs).take j++[UInt8.ofNat ((Cd.vb bs (8*j) 8:Nat):Int).toNat]):=by
          show _=_;rw[Cd.LB bs (by have:=yw.out;omega),Cd.LA,Int.toNat_natCast]
         have hcv:=nA ((Cd.vb bs (8*j) 8:Nat):Int) (by omega) (by omega)
         have hsz2:(⟨((Wc bs).take j).toArray⟩:ByteArray).size<=4000:=by
          show((Wc bs).take j).toArray.size<=_;simp;omega
         have HE2:Hid ((⟨((Wc bs).take j).toArray⟩:ByteArray)++⟨#[UInt8.ofNat ((Cd.vb bs (8*j) 8:Nat):Int).toNat]⟩=⟨((Wc bs).take (j+1)).toArray⟩):=by
          show _=_;rw[HT.out];exact XR _ _
         generalize Cd.vb bs (8*j) 8=v at*;generalize (⟨((Wc bs).take j).toArray⟩:ByteArray)=o at*;clear HT;have HI2:Hid (I+8=8*((j+1:Nat):Int)/\I+8<=32000):=by have:=rY.out;show _/\_;omega
         go_wp2_with fail
         exact⟨⟨j+1,I+8,by omega,rfl,HI2.out.1,by omega,HI2.out.2,by rw[<-HE2.out];rfl,B3.alloc B3.size _⟩,by simp[intOf];omega⟩
      ·obtain rfl:j=m:=by omega
       have dI:decide (I<(sP.size:Int))=false:=by have:=HI.out;have:=ml.out;simp;omega
       have hE:(Wc bs).take j=Wc bs:=List.take_of_length_le (by rw[lH];have:=yw.out;omega);rw[hE];clear hE;go_wp2_with fail
       go_ret2
       exact⟨rfl,B3⟩
    ·obtain⟨n,rfl⟩:∃x,gk=x+1:=⟨gk-1,by omega⟩
     obtain⟨r,DP,hr1,hr2⟩:∃r:Nat,Hid (r=(bs.length+p)%8)/\r≠0/\r<8:=⟨(bs.length+p)%8,rfl,by have:=Hp.out;omega,by omega⟩
     have hm:((VD (bs++List.replicate p false)).size:Int).tmod 8=(r:Int):=by rw[lK.out,Int.tmod_eq_emod_of_nonneg (by omega),DP.out];omega
     have hm2:((VD (bs++List.replicate p false)).size:Int)%8=(r:Int):=by rw[lK.out,DP.out];omega
     have dr:((r:Int) != 0)=true:=by simp;omega
     have sb:¬9223372036854775807<(VD (bs++List.replicate p false)).size+1:=by omega
     generalize VD (bs++List.replicate p false)=sP at*;clear hr1 hr2 lK;go_wp2_with fail
     go_roundg n
     case measure=>omega
     case rel=>exact⟨p+1,by rw[HE.out],by have:=Hp.out;show _=_;omega,rfl⟩
theorem DQ(f:Nat->Int)(s:ByteArray)(w:World)(hs0:s.size<=140737488355328) :
 CB 166 #[.agg (arr f),.string s] w (.tuple #[.string (VO f s).1,.int .i64 (VO f s).2]):=by
 by_cases h0:Wj f=0
 ·by_cases hs:s.size<=1024
  ·exact LC f s w h0 hs
  ·have h9:VO f s=(⟨#[]⟩,2):=by rw[VO,ab (λh=>h h0),ax (by omega)]
   rw[h9];have hck:=λw=>rh f w
   rw[h0]at hck;have hin:=Zh f;have hs':1024<(s.size:Int):=by omega
   have ds:=al (by omega:1024<(s.size:Int));have R1:=ai.new w f;have HB:ae w (w.alloc (.cells (arr f) 142)):=(bR _ _).alloc (nl _) _;clear h9 hs h0;go_enter func166,ntmps166
   go_wp2_with (refine wpList_load_row rfl 142 _ rfl w.heap.size rfl 142 (arr f) (0,0) _ R1.2 aF rfl hin ?_)
   refine mo (hck _) λw1 G1=>?_
   have B1:=ag HB G1;clear R1 HB G1 hck;go_wp2_with fail
   go_ret2
   exact⟨rfl,B1⟩
 ·have h9:VO f s=(⟨#[]⟩,Wj f):=by rw[VO,ax h0]
  rw[h9];have hck:=λw=>rh f w
  have hin:=Zh f;have R1:=ai.new w f;have HB:ae w (w.alloc (.cells (arr f) 142)):=(bR _ _).alloc (nl _) _;generalize Wj f=E at*;have d0:(E != 0)=true:=by simpa using h0
  clear h9 h0;go_enter func166,ntmps166
  go_wp2_with (refine wpList_load_row rfl 142 _ rfl w.heap.size rfl 142 (arr f) (0,0) _ R1.2 aF rfl hin ?_)
  refine mo (hck _) λw1 G1=>?_
  have B1:=ag HB G1;clear R1 HB G1 hck;go_wp2_with fail
  go_ret2
  exact⟨rfl,B1⟩
namespace Cd
def Xv(b:ByteArray)(a:Nat):List Bool:=(List.range (8*b.size-a)).map λj=>decide (ZV b (a+j)=1)
theorem oJ(b:ByteArray)(a:Nat):(Xv b a).length=8*b.size-a:=by simp[Xv]
theorem DS(b:ByteArray)(a j:Nat)(h:j<8*b.size-a):aau (Xv b a) j=ZV b (a+j):=by
 have h1:=uM b (a+j);simp only[aau,Xv,List.getD_eq_getElem?_getD,List.getElem?_map,List.getElem?_range h,Option.map_some,Option.getD_some,WE];by_cases e:ZV b (a+j)=1
 ·simp[e]
 ·have:ZV b (a+j)=0:=by omega
  simp[this]
theorem LH(b:ByteArray)(a d:Nat):(Xv b a).drop d=Xv b (a+d):=by
 apply List.ext_getElem?;intro i;rw[List.getElem?_drop];unfold Xv;rw[List.getElem?_map,List.getElem?_map];by_cases h:i<8*b.size-(a+d)
 ·rw[List.getElem?_range (by omega),List.getElem?_range h];simp only[Option.map_some,Nat.add_assoc]
 ·rw[List.getElem?_eq_none (by simp;omega),List.getElem?_eq_none (by simp;omega)];rfl
theorem LI(hl:xs.length=ys.length)(h:∀j,j<xs.length->aau xs j=aau ys j):xs=ys:=by
 apply List.ext_getElem hl;intro i h1 h2;have h3:=h i h1;simp only[aau,List.getD_eq_getElem?_getD,List.getElem?_eq_getElem h1,List.getElem?_eq_getElem h2,Option.getD_some]at h3
 revert h3
 cases xs[i]<;>cases ys[i]<;>simp[WE]
theorem DU{n:Nat}(h:j<n):aau (xs.take n) j=aau xs j:=by
 simp[aau,List.getD_eq_getElem?_getD,h]
def YH(f:Nat->Int)(bs:List Bool)(i:Nat):Prop:=0<f i/\(f i).toNat<=bs.length/\bs.take (f i).toNat=VR f i
instance (f:Nat->Int) (bs:List Bool) (i:Nat):Decidable (YH f bs i):=inferInstanceAs (Decidable (_/\_/\_))
theorem yx(h:Wj f=0){b:ByteArray}{a i:Nat}(ha:a<=8*b.size)(hi:i<16):YH f (Xv b a) i↔Yt f b a=((i:Int),a+(f i).toNat):=by
 obtain⟨h1,_,_⟩:=Yc h;have h2:=h1 i hi;constructor
 ·rintro⟨c1,c2,c3⟩
  obtain⟨N,hN⟩:∃N:Nat,f i=(N:Int):=⟨(f i).toNat,by omega⟩
  rw[hN,Int.toNat_natCast]at c2 c3 |-
  rw[oJ]at c2;have hlt:=Ds h hi hN (by omega) (by omega);have h9:=rJ f i;refine Dn hi hN (λj hj e1 e2=>?_) (λn hn1 hn j hj e1=>Dp hi hN (by omega) (by omega) n hn1 hn j hj e1) N 15 1 0 _ (by omega) (by omega) (by omega) (by omega) (by omega) (Int.ediv_eq_zero_of_lt h9.1 hlt) (λj hj=>?_)
  ·exact ei (n:=N-1) hj hi (by omega) (by omega) (by omega) e2
  ·rw[<-DS b a j (by omega),<-DU hj,c3,VR,hN];exact uP _ hj
 ·intro hs;have hne:(Yt f b a).1 ≠ -1:=by rw[hs];simp only;omega
  obtain⟨s,d,e,hs2,hf,hd,hm,hz,hw,hj⟩:=uN (f:=f) (ws:=VM f) (b:=b) 15 1 0 a (nl _) hne;have e2:=e.symm.trans hs;simp only[Prod.mk.injEq]at e2;obtain rfl:s=i:=by omega
  have hfd:f s=(d:Int):=by omega
  refine⟨by omega,by rw[oJ,hfd,Int.toNat_natCast];omega,?_⟩;rw[hfd,Int.toNat_natCast];have hlen:(VR f s).length=d:=by rw[VR,nG,hfd,Int.toNat_natCast]
  refine LI (by rw[List.length_take,oJ,hlen];omega) (λj hjl=>?_);have hjd:j<d:=by rw[List.length_take]at hjl;omega
  rw[DU hjd,DS b a j (by omega)];have h3:=hj j hjd;rw[<-uP (VM f s) hjd]at h3;rw[VR,hfd,Int.toNat_natCast];omega
def ko(f:Nat->Int)(bs:List Bool):Nat->Int
 |0=>-1
 |k+1=>if ko f bs k ≠ -1 then ko f bs k else if YH f bs k then(k:Int) else -1
theorem DV{bs:List Bool}(h:ko f bs k=-1)(h1:¬YH f bs k):ko f bs (k+1)=-1:=by rw[ko,ab (by omega),ab h1]
theorem DW{bs:List Bool}(h:ko f bs k=-1)(h1:YH f bs k):∀j,ko f bs (k+1+j)=(k:Int):=by
 intro j
 induction j with
 |zero=>rw[Nat.add_zero,ko,ab (by omega),ax h1]
 |succ j ih=>rw[<-Nat.add_assoc,ko,ih,ax (by omega)]
def uS(f:Nat->Int)(bs:List Bool):Int:=ko f bs 16
theorem DX{bs:List Bool} :∀k,(∀i,i<k->¬YH f bs i)->ko f bs k=-1:=by
 intro k
 induction k with
 |zero=>intro _;rfl
 |succ k ih=>intro h;exact DV (ih (λi hi=>h i (by omega))) (h k (by omega))
theorem LJ(h:Wj f=0){b:ByteArray}{a:Nat}(ha:a<=8*b.size):uS f (Xv b a)=(Yt f b a).1/\((Yt f b a).1 ≠ -1->(Yt f b a).2=a+(f (Yt f b a).1.toNat).toNat):=by
 by_cases hne:(Yt f b a).1=-1
 ·refine⟨?_,λh9=>absurd hne h9⟩;rw[hne];refine DX 16 (λi hi hc=>?_);have:=(yx h ha hi).1 hc;rw[this]at hne;simp only at hne;omega
 ·obtain⟨s,d,e,hs2,hf,hd,_⟩:=uN (f:=f) (ws:=VM f) (b:=b) 15 1 0 a (nl _) hne;have e':Yt f b a=((s:Int),a+d):=e;have hfd:f s=(d:Int):=by omega
  have hc:=(yx h ha hs2).2 (by rw[e',hfd,Int.toNat_natCast]);rw[e'];simp only[Int.toNat_natCast];refine⟨?_,λ_=>by rw[hfd,Int.toNat_natCast]⟩
  have h1:=DX (f:=f) (bs:=Xv b a) s (λi hi hci=>by
   have:=(yx h ha (by omega)).1 hci;rw[e']at this;simp only[Prod.mk.injEq]at this
   omega)
  have h2:=DW h1 hc (15-s);rw[show s+1+(15-s)=16 by omega]at h2;exact h2
theorem LK{a b:Bool}(h:chr a=chr b):a=b:=by revert h;cases a<;>cases b<;>simp[chr]
theorem LL(h:VD xs=VD ys):xs=ys:=by
 have h1:xs.map chr=ys.map chr:=by
  have:=congrArg (λs=>s.data.toList) h;simpa[VD]using this
 apply List.ext_getElem
 ·have:=congrArg List.length h1;simpa using this
 ·intro i h2 h3;have h4:(xs.map chr)[i]?=(ys.map chr)[i]?:=by rw[h1]
  simp only[List.getElem?_map,List.getElem?_eq_getElem h2,List.getElem?_eq_getElem h3,Option.map_some,Option.some.injEq]at h4;exact LK h4
theorem LM(bs:List Bool)(n:Nat):(VD bs).extract 0 n=VD (bs.take n):=by
 apply ByteArray.ext;simp[VD,ByteArray.data_extract,List.map_take]
theorem LN(bs:List Bool)(n:Nat):(VD bs).extract n (VD bs).size=VD (bs.drop n):=by
 apply ByteArray.ext;rw[jM];simp[VD,ByteArray.data_extract,List.map_drop,List.take_of_length_le]
def pre(b:ByteArray)(k:Nat):List Bool:=(List.range (8*k)).map λj=>decide (ZV b j=1)
theorem LO(b:ByteArray)(k:Nat):(pre b k).length=8*k:=by simp[pre]
theorem LP(b:ByteArray)(k:Nat):pre b (k+1)=pre b k++WN (at8 b k) 8:=by
 unfold pre;rw[show 8*(k+1)=8*k+8 by omega,List.range_add,List.map_append,List.map_map]
 congr 1
 have h:∀r,r<8->decide (ZV b (8*k+r)=1)=decide (((at8 b k:Nat):Int)/2^(7-r)%2=1):=λr hr=>by
  rw[mn b k r hr];have e:(((at8 b k:Nat):Int)/2^(7-r)%2)=((at8 b k/2^(7-r)%2:Nat):Int):=by push_cast;rfl
  rw[e];generalize at8 b k/2^(7-r)%2=y;by_cases hy:y=1
  ·simp[hy]
  ·have:¬(y:Int)=1:=by omega
   simp[hy,this]
 simp only[WN,List.range_succ,List.range_zero,List.map_cons,List.map_nil,List.nil_append,Function.comp,List.cons_append];rw[h 0 (by omega),h 1 (by omega),h 2 (by omega),h 3 (by omega),h 4 (by omega),h 5 (by omega),h 6 (by omega),h 7 (by omega)]
theorem LQ(b:ByteArray):pre b b.size=Xv b 0:=by simp[pre,Xv]
theorem LR(hc:Wj f=0)(hn:¬(n<0\/1024<n))(h:4*n<(b.size:Int)):VP f b n=(⟨#[]⟩,1):=by
 cases hq:bZ f b n.toNat with
 |none=>exact iO hc hn hq
 |some x =>
  obtain⟨o,a⟩:=x;rw[kj hc hn hq];by_cases he:end_ b a=true
  ·exfalso
   obtain⟨bs,l1,l2,l3,e1,e2⟩:=yk _ o a hq;have h1:=pV (Yc hc).1 _ bs e1;rw[end_,Bool.and_eq_true,decide_eq_true_eq]at he;omega
  ·rw[ab he]
theorem LS{o:List UInt8}(hc:Wj f=0)(hn:¬(n<0\/1024<n))(hq:bZ f b n.toNat=some (o,a)):(VO f ⟨o.toArray⟩).2=0/\o.length=n.toNat/\VP f b n=if(VO f ⟨o.toArray⟩).1=b then(⟨o.toArray⟩,0) else(⟨#[]⟩,1):=by
 obtain⟨bs,l1,l2,l3,e1,e2⟩:=yk _ o a hq
 have hso:(⟨o.toArray⟩:ByteArray).size=n.toNat:=by
  show o.toArray.size=_;simp[l1]
 have hw:VO f ⟨o.toArray⟩=(⟨(Wc bs).toArray⟩,0):=by
  rw[VO,ab (λh=>h hc),ab (by omega),hso,e1]
 rw[hw];refine⟨rfl,l1,?_⟩;rw[kj hc hn hq];by_cases he:end_ b a=true
 ·rw[ax he,ax (Dy l2 e2 he).symm]
 ·rw[ab he,ab];intro h9;apply he;have:=Du bs;simp only at h9;rw[h9,l2]at this;exact this
end Cd
theorem nN(a b:ByteArray):(a.toList==b.toList)=decide (a=b):=by
 by_cases h:a=b
 ·subst h;simp
 ·rw[decide_eq_false h];refine Bool.eq_false_iff.2 (λh9=>h ?_);have h8:a.toList=b.toList:=by simpa using h9
  rw[ByteArray.toList_eq,ByteArray.toList_eq]at h8;apply ByteArray.ext;exact Array.toList_inj.1 h8
theorem fY(w:World)(f:Nat->Int)(h:Nat->ByteArray):ai ((w.alloc (.cells (arr f) 142)).alloc (.cells (aQ h) 172)) w.heap.size f/\aW ((w.alloc (.cells (arr f) 142)).alloc (.cells (aQ h) 172)) (w.heap.size+1) h/\ae w ((w.alloc (.cells (arr f) 142)).alloc (.cells (aQ h) 172)) :=
 ⟨(ai.new w f).alloc _,by have:=aW.new (w.alloc (.cells (arr f) 142)) h;simpa using this,((bR _ _).alloc (nl _) _).alloc (by simp) _⟩
theorem LU(f:Nat->Int)(bs:List Bool)(w:World)(hR:Wk f 15 16)(hb:bs.length<=1000000) :
 CB 165 #[.agg (arr f),.agg (aQ λi=>VD (VR f i)),.string (VD bs)] w (.int .i64 (uS f bs)):=by
 obtain⟨hS,iP⟩:∃h,(λi=>VD (VR f i))=h:=⟨_,rfl⟩
 rw[iP];have HS:=Za iP;have HR:=Za hR
 obtain⟨r,hr⟩:∃r,uS f bs=r:=⟨_,rfl⟩
 rw[hr];have Hr:=Za hr;clear iP hR hr;have hsz:(VD bs).size<=1000000:=by rw[jM];exact hb
 have lK:=Za (jM bs);obtain⟨R1,R2,B1⟩:=fY w f hS;go_enter func165,ntmps165
 go_wp2_with fail
 generalize (w.alloc (.cells (arr f) 142)).alloc (.cells (aQ hS) 172)=w0 at*;go_loopw [7] (λi wr=>∃k:Nat,k<=16/\i=.int .i64 k/\Hid (Cd.ko f bs k=-1)/\ai wr w.heap.size f/\aW wr (w.heap.size+1) hS/\ae w wr) (λi _=>16-(intOf i).toNat)
 case atStart=>exact⟨0,by omega,rfl,rfl,R1,R2,B1⟩
 case round =>
  clear R1 R2 B1;obtain⟨k,hk,rfl,hF,R1,R2,B1⟩:=hrel;by_cases hlt:k<16
  ·have hk1:=al (by omega:(k:Int)<16);have hk2:=al (by omega:k<16);have hk3:(k:Int)<16:=by omega
   have c1:=R1.cell k hlt;have c2:wr.cell? ⟨w.heap.size+1,k,none⟩=some (.string (VD (VR f k))):=by rw[R2.cell k hlt,<-HS.out]
   have hfk:=HR.out k hlt
   have HY:Hid (YH f bs k->r=(k:Int)):=λh=>by
    have h9:=DW hF.out h (15-k);rw[show k+1+(15-k)=16 by omega]at h9;exact Hr.out.symm.trans h9
   have HN:=Za λ(h:¬YH f bs k)=>DV hF.out h
   by_cases h1:0<f k
   ·by_cases h2:(f k).toNat<=bs.length
    ·obtain⟨N,hN⟩:∃N:Nat,f k=(N:Int):=⟨(f k).toNat,by omega⟩
     have hext:=LM bs N;have hbe:=nN (VD (bs.take N)) (VD (VR f k))
     have HC:Hid (YH f bs k↔VD (bs.take N)=VD (VR f k)):=by
      unfold YH;rw[hN,Int.toNat_natCast];exact⟨λh=>by rw[h.2.2],λh=>⟨by omega,by rw[hN,Int.toNat_natCast]at h2;exact h2,Cd.LL h⟩⟩
     rw[hN]at h1 h2 hfk c1;rw[Int.toNat_natCast]at h2;have hNs:(N:Int)<=((VD bs).size:Int):=by have:=lK.out;omega
     have LV:N<=(VD bs).size:=by have:=lK.out;omega
     have d1:=al (by omega:(0:Int)<(N:Int));have d1':=al (by omega:0<N);have d2:=al (by omega:(N:Int)<=((VD bs).size:Int));have eJ:=al (by omega:N<=(VD bs).size);by_cases hc:VD (bs.take N)=VD (VR f k)
     ·obtain rfl:=HY.out (HC.out.2 hc);rw[decide_eq_true hc]at hbe;generalize VD (bs.take N)=s1 at*;generalize VD (VR f k)=s2 at*;generalize VD bs=sB at*;clear hc h1 h2 hfk hN HC HN HY;go_wp2_with fail
      go_quiet (fail)
      go_wp2_with fail
      go_ret
      exact⟨rfl,below_drewN B1 _⟩
     ·have cK:=Za (HN.out (λh=>hc (HC.out.1 h)));rw[decide_eq_false hc]at hbe;generalize VD (bs.take N)=s1 at*;generalize VD (VR f k)=s2 at*;generalize VD bs=sB at*;clear hc h1 h2 hfk hN HC HN HY;go_wp2_with fail
      go_quiet (fail)
      go_wp2_with fail
      exact⟨⟨k+1,by omega,by go_num,cK,R1.below (below_drewN (bR _ _) _),R2.below (below_drewN (bR _ _) _),below_drewN B1 _⟩,by simp[intOf];omega⟩
    ·have cK:=Za (HN.out (λh=>h2 h.2.1));have d1:decide (0<f k)=true:=by simpa using h1
     have d2:decide (f k<=((VD bs).size:Int))=false:=by have:=lK.out;simp;omega
     generalize f k=z at*;generalize VD bs=sB at*;clear h1 h2 hfk HN HY c2;go_wp2_with fail
     go_quiet (fail)
     go_wp2_with fail
     exact⟨⟨k+1,by omega,by go_num,cK,R1.below (below_drewN (bR _ _) _),R2.below (below_drewN (bR _ _) _),below_drewN B1 _⟩,by simp[intOf];omega⟩
   ·have cK:=Za (HN.out (λh=>h1 h.1));have d1:decide (0<f k)=false:=by simpa using h1
    generalize f k=z at*;clear h1 hfk HN HY c2;go_wp2_with fail
    go_quiet (fail)
    go_wp2_with fail
    exact⟨⟨k+1,by omega,by go_num,cK,R1.below (below_drewN (bR _ _) _),R2.below (below_drewN (bR _ _) _),below_drewN B1 _⟩,by simp[intOf];omega⟩
  ·obtain rfl:k=16:=by omega
   obtain rfl:r=-1:=Hr.out.symm.trans hF.out;go_wp2_with fail
   go_ret
   exact⟨rfl,B1⟩
theorem ai.grown{w1:World}{o:Obj}(h:ai w g f)(hne:some g≠v.ownBlock)(hg:(w.alloc o).grownBy w1 v.ownBlock):ai w1 g f:=by
 have hblk:w1.heap[g]?=w.heap[g]?:=by
  rw[hg.block g (by have:=h.1;simp;omega) hne];exact((bR w.heap.size w).alloc (nl _) o).block g h.1
 have h2:=hblk.trans h.2;exact⟨(aG.1 h2).1,h2⟩
theorem aW.grown{w1:World}{f:Nat->ByteArray}{o:Obj}(h:aW w g f)(hne:some g≠v.ownBlock)(hg:(w.alloc o).grownBy w1 v.ownBlock):aW w1 g f:=by
 have hblk:w1.heap[g]?=w.heap[g]?:=by
  rw[hg.block g (by have:=h.1;simp;omega) hne];exact((bR w.heap.size w).alloc (nl _) o).block g h.1
 have h2:=hblk.trans h.2;exact⟨(aG.1 h2).1,h2⟩
namespace Cd
def At(f:Nat->Int)(b:ByteArray)(I a:Nat)(q:List UInt8):Prop :=
 (∃k,I=2*k/\bZ f b k=some (q,a)/\q.length=k) ∨
 (∃k o a0 x,I=2*k+1/\bZ f b k=some (o,a0)/\o.length=k/\Yt f b a0=(x,a)/\0<=x/\x<16/\q=o++[UInt8.ofNat (16*x).toNat])
theorem At.len(h:At f b I a q):q.length=(I+1)/2:=by
 rcases h with⟨k,h1,_,h3⟩|⟨k,o,a0,x,h1,_,h3,_,_,_,h4⟩
 ·omega
 ·rw[h4];simp;omega
theorem At.stop(h:At f b I a q)(hc:Wj f=0)(hn:¬(n<0\/1024<n))(hI:(I:Int)<2*n)(hs:(Yt f b a).1=-1):VP f b n=(⟨#[]⟩,1):=by
 rcases h with⟨k,h1,h2,_⟩|⟨k,o,a0,x,h1,h2,_,h3,_⟩
 ·exact iO hc hn (ye (k:=k) (a1:=(Yt f b a).2) (a2:=(Yt f b (Yt f b a).2).2) (x:=(Yt f b a).1) (y:=(Yt f b (Yt f b a).2).1) (by omega) h2 rfl rfl (.inl hs))
 ·exact iO hc hn (ye (k:=k) (a1:=a) (a2:=(Yt f b a).2) (x:=x) (y:=(Yt f b a).1) (by omega) h2 h3 rfl (.inr hs))
theorem At.even{x:Int}(h:At f b I a q)(hI:I%2=0)(hs:Yt f b a=(x,a1))(h0:0<=x)(h1:x<16):At f b (I+1) a1 (q++[UInt8.ofNat (16*x).toNat]):=by
 rcases h with⟨k,h1',h2,h3⟩|⟨k,o,a0,x,h1',_⟩
 ·exact .inr ⟨k,q,a,x,by omega,h2,h3,hs,h0,h1,rfl⟩
 ·omega
theorem At.odd{y:Int}(h:At f b I a q)(hI:I%2=1)(hs:Yt f b a=(y,a1))(h0:0<=y)(h1:y<16):∃x:Int,0<=x/\x<16/\q[I/2]?=some (UInt8.ofNat (16*x).toNat)/\At f b (I+1) a1 (q.set (I/2) (UInt8.ofNat (16*x+y).toNat)):=by
 rcases h with⟨k,h1',h2,h3⟩|⟨k,o,a0,x,e1,e2,e3,e4,e5,e6,rfl⟩
 ·omega
 ·refine⟨x,e5,e6,?_,.inl ⟨k+1,by omega,?_,?_⟩⟩
  ·rw[List.getElem?_append_right (by omega),show I/2-o.length=0 by omega];rfl
  ·rw[yc e2 e4 hs (by omega),show I/2=o.length by omega,Int.mul_comm 16 x];simp
  ·simp[e3]
theorem At.last(h:At f b I a q){n:Nat}(hI:I=2*n):bZ f b n=some (q,a):=by
 rcases h with⟨k,h1,h2,_⟩|⟨k,o,a0,x,h1,_⟩
 ·obtain rfl:k=n:=by omega
  exact h2
 ·omega
end Cd
theorem LW(f:Nat->Int)(b:ByteArray)(n:Int)(w:World)(h0:Wj f=0)(hn0:0<=n)(hn1:n<=1024)(hb:(b.size:Int)<=4*n) :
 CB 124 #[.agg (arr f),.string b,.int .i64 n] w (.tuple #[.string (VP f b n).1,.int .i64 (VP f b n).2]):=by
 have hck:=λw=>rh f w
 rw[h0]at hck;have HR:=Za ((Yc h0).1);have hwd:=λw=>DL f w HR.out
 obtain⟨hS,iP⟩:∃h,(λi=>VD (VR f i))=h:=⟨_,rfl⟩
 rw[iP]at hwd
 have hfr:∀(bs:List Bool) (w:World),bs.length<=1000000->CB 165 #[.agg (arr f),.agg (aQ hS),.string (VD bs)] w (.int .i64 (uS f bs)):=λbs w h=>by
  have:=LU f bs w HR.out h;rw[iP]at this;exact this
 clear iP;have hin:=Zh f;have iN:=yr hS;have H0:=Za h0;have R1:=ai.new w f;have HB:ae w (w.alloc (.cells (arr f) 142)):=(bR _ _).alloc (nl _) _
 obtain⟨r1,r2,hr⟩:∃r1 r2,VP f b n=(r1,r2):=⟨_,_,rfl⟩
 rw[hr];have Hr:=Za hr;have db:=dF (by omega:¬(4*n<(b.size:Int)));have hbs:b.size<=4096:=by omega
 clear hr h0;go_enter func124,ntmps124
 go_wp2_with (refine wpList_load_row rfl 142 _ rfl w.heap.size rfl 142 (arr f) (0,0) _ R1.2 aF rfl hin ?_)
 refine mo (hck _) λw1 G1=>?_
 have S1:=R1.below G1;have B1:=ag HB G1;clear R1 HB G1 hck;go_wp2_with fail
 refine mo (lG n 0 1024 _ hn0 hn1) λw' hw'=>?_
 subst hw';go_wp2_with fail
 go_loopw [9,10] (λs i wr=>∃k:Nat,k<=b.size/\i=.int .i64 k/\s=.string (VD (Cd.pre b k))/\ai wr w.heap.size f/\ae w wr) (λ_ i _=>b.size-(intOf i).toNat)
 case atStart=>exact⟨0,by omega,rfl,rfl,S1,B1⟩
 case round =>
  clear S1 B1;obtain⟨k,hk,rfl,rfl,S1,B1⟩:=hrel;by_cases hlt:k<b.size
  ·have hk1:=al (by omega:(k:Int)<(b.size:Int));have hk2:=al (by omega:k<b.size)
   obtain⟨x,hx⟩:∃x:Int,(b[k].toNat:Int)=x:=⟨_,rfl⟩
   have hA:Cd.at8 b k=b[k].toNat:=by unfold Cd.at8;rw[ZX b k hlt];rfl
   have hA2:=Xf b k;have hx0:0<=x:=by omega
   have hx1:x<=255:=by omega
   have hbt:=λw=>DK 8 x w hx0 (by omega) (by omega)
   have HE:Hid (VD (Cd.pre b k)++VD (WN x 8)=VD (Cd.pre b (k+1))):=by
    show _=_;rw[LP,<-rX,hA,hx]
   have LD:(VD (Cd.pre b k)).size<=40000:=by rw[jM,Cd.LO];omega
   have fy:(VD (WN x 8)).size<=8:=by rw[jM,nG];omega
   generalize VD (Cd.pre b k)=s1 at*;generalize VD (WN x 8)=s2 at*;clear hA hA2;go_wp2_with fail
   refine mo (hbt _) λw2 G2=>?_
   have S2:=S1.below G2;have B2:=ag B1 G2;clear S1 B1 G2 hbt;go_wp2_with fail
   go_roundw
   case rel=>exact⟨k+1,by omega,by go_num,by rw[HE.out],S2,B2⟩
   case measure=>simp[intOf];omega
  ·obtain rfl:k=b.size:=by omega
   rw[LQ];have hbl:(Xv b 0).length<=1000000:=by rw[oJ];omega
   go_wp2_with (refine wpList_load_row rfl 142 _ rfl w.heap.size rfl 142 (arr f) (0,0) _ S1.2 aF rfl hin ?_)
   refine mo (hwd _) λw2 G2=>?_
   have T1:=S1.below G2;have B2:=ag B1 G2;clear S1 B1 G2 hwd;go_wp2_with (refine wpList_store_row rfl 172 _ _ rfl w2.heap.size (aQ hS) rfl rfl 172 _ (heap_alloc_last w2 _) iN rfl (yu _) ?_;rw[World.setRow_alloc_new])
   have T7:=aW.new w2 hS;have T2:=T1.alloc (.cells (aQ hS) 172);have B3:ae w (w2.alloc (.cells (aQ hS) 172)):=B2.alloc (nL T1.1) _;have hgw:=Za T1.1;clear T1 B2;generalize w2.alloc (.cells (aQ hS) 172)=w3 at*;generalize w2.heap.size=g7 at*;obtain⟨i0,hi,hz0,hz1,hz2⟩:=info_parts oq;go_loopw [9,12,13] (λs v i wr=>∃(I a:Nat) (q:List UInt8),(I:Int)<=2*n/\i=.int .i64 I/\s=.string (VD (Xv b a))/\a<=8*b.size/\Hid (Cd.At f b I a q)/\q.length<=1024/\wr.ownsRow (g7+1) 5 1 v q.length (cz q)/\ai wr w.heap.size f/\aW wr g7 hS/\ae w wr) (λ_ _ i _=>4000-(intOf i).toNat)
   case atStart=>exact⟨0,0,[],by omega,rfl,rfl,by omega,.inl ⟨0,rfl,rfl,rfl⟩,by simp,World.ownsRow_nil _ _ _ _,T2,T7,B3⟩
   case round =>
    clear T2 T7 B3;obtain⟨I,a,q,hI,rfl,rfl,ha,HAt,rR,ho,T2,T7,B3⟩:=hrel;by_cases hlt:(I:Int)<2*n
    ·have hk1:decide ((I:Int)<2*n)=true:=by simpa using hlt
     obtain⟨x,a1,h1⟩:∃x a1,Yt f b a=(x,a1):=⟨_,_,rfl⟩
     obtain⟨p1,p2,p3⟩:=yl ha h1;obtain⟨f1,f2⟩:=LJ H0.out ha;rw[h1]at f1 f2;have hf:=λw=>hfr (Xv b a) w (by rw[oJ];omega)
     rw[f1]at hf;go_wp2_with (first|refine wpList_load_row rfl 142 _ rfl w.heap.size rfl 142 (arr f) (0,0) _ T2.2 aF rfl hin ?_|refine wpList_load_row rfl 172 _ rfl g7 rfl 172 (aQ hS) (0,0) _ T7.2 eh rfl iN ?_)
     refine mo (hf _) λw4 G4=>?_
     have U2:=T2.below G4;have U7:=T7.below G4;have O4:=Zz ho G4;have B4:=ag B3 G4;clear T2 T7 ho B3 G4 hf f1 hfr;by_cases hx:x=-1
     ·have h9:=HAt.out.stop H0.out (n:=n) (by omega) hlt (by rw[h1];exact hx);have h8:=Hr.out.symm.trans h9;simp only[Prod.mk.injEq]at h8;obtain⟨rfl,rfl⟩:=h8;subst hx;clear h9 f2 h1;go_wp2_with fail
      go_ret2
      exact⟨rfl,B4⟩
     ·have hx0:0<=x:=by omega
      obtain⟨X,rfl⟩:∃X:Nat,x=(X:Int):=⟨x.toNat,by omega⟩
      have hX:X<16:=by omega
      have dx:decide ((X:Int)<0)=false:=by simp
      have f3:=f2 hx;rw[Int.toNat_natCast]at f3;have c1:=U2.cell X hX;have hfX:=HR.out X hX
      obtain⟨N,hN⟩:∃N:Nat,f X=(N:Int):=⟨(f X).toNat,by omega⟩
      have hext:(VD (Xv b a)).extract N (VD (Xv b a)).size=VD (Xv b a1):=by
       rw[Cd.LN,LH];rw[f3,hN,Int.toNat_natCast]
      have hNs:N<=(VD (Xv b a)).size:=by
       rw[jM,oJ];rw[hN,Int.toNat_natCast]at f3;omega
      have LX:(N:Int)<=((VD (Xv b a)).size:Int):=by omega
      have hss:(VD (Xv b a)).size<=40000:=by rw[jM,oJ];omega
      rw[hN]at c1;have Hq:=HAt.out.len;generalize VD (Xv b a)=s1 at*;have HI1:Hid (((I+1:Nat):Int)<=2*n):=by show _<=_;omega
      have H1:=Za h1;have DY:=Za p1;clear f2 f3 hfX hN h1 hx p2 p1;by_cases hev:I%2=0
      ·have m1:(I:Int).tmod 2=0:=by rw[Int.tmod_eq_emod_of_nonneg (by omega)];omega
       have m2:(I:Int)%2=0:=by omega
       have HA2:=Za (HAt.out.even hev H1.out (by omega) (by omega));have LY:Hid (cz (q++[UInt8.ofNat (16*(X:Int)).toNat])=cz q++[.int .u8 (16*(X:Int))]):=qZ q _ (by omega) (by omega);have hle:g7+1<=(w4.alloc (.cells #[.int .u8 (16*(X:Int))] 5)).heap.size:=by have:=U7.1;simp;omega
       have xU:Hid (q.length+1<=1024):=by show _<=_;omega
       have hm:(16*(X:Int))%256=16*(X:Int):=by omega
       clear hev Hq HAt;go_wp2_with (at_builtin;go_must (refine wpList_append_own _ rfl _ _ 29 rfl (g7+1) 5 i0 (.int .u8 0) 1 1 gE hi hz0 hz1 hz2 rfl (by decide) _ _ _ rfl (O4.alloc _) ⟨w4.heap.size,0,none⟩ 1 1 [.int .u8 (16*(X:Int))] rfl rfl (cell_one_new _ _ _) (nz _) (fb (by omega)) (by omega) hle ?_;intro v' w6 hown' hgrow _))
       have hne:∀g,g<=g7->some g≠Value.ownBlock u12:=λg hg e=>by have:=(O4.lt g e.symm).1;omega
       have V2:=U2.grown (hne _ (nL hgw.out)) hgrow;have V7:=U7.grown (hne _ (nl _)) hgrow;have B6:=(B4.alloc B4.size _).grown hgrow (by have:=B4.size;simp;omega) (λj hj=>by have:=(O4.lt j hj).1;have:=hgw.out;omega);refine⟨⟨I+1,a1,q++[UInt8.ofNat (16*(X:Int)).toNat],HI1.out,by go_num,rfl,DY.out,HA2,by have:=xU.out;simp;omega,?_,V2,V7,B6⟩,by simp[intOf];omega⟩;rw[LY.out,List.length_append];exact hown'
      ·clear Hq;have hod:I%2=1:=by omega
       have m1:(I:Int).tmod 2=1:=by rw[Int.tmod_eq_emod_of_nonneg (by omega)];omega
       have m2:(I:Int)%2=1:=by omega
       obtain⟨y,y0,y1,hy,HA2⟩:=HAt.out.odd hod H1.out (by omega) (by omega)
       obtain⟨J,hJ⟩:∃J,I/2=J:=⟨_,rfl⟩
       have m3:(I:Int).tdiv 2=(J:Int):=by rw[Int.tdiv_eq_ediv_of_nonneg (by omega)];omega
       have m4:(I:Int)/2=(J:Int):=by omega
       rw[hJ]at hy HA2;have yy:=(List.getElem?_eq_some_iff.1 hy).1;obtain⟨g,cap,hv,hg,hgl,hcell,hfz,hset⟩:=CJ O4 (by intro e;rw[e]at yy;simp at yy);subst hv;have hcJ:=hcell J _ hy;have UR:=hfz J;have hsJ:=hset J (UInt8.ofNat (16*y+(X:Int)).toNat) yy;have e1:((UInt8.ofNat (16*y).toNat).toNat:Int)=16*y:=by simp;omega
       have e2:((UInt8.ofNat (16*y+(X:Int)).toNat).toNat:Int)=16*y+(X:Int):=by simp;omega
       rw[e1]at hcJ;rw[e2]at hsJ;have LZ:=Za HA2;have hsl:(q.set J (UInt8.ofNat (16*y+(X:Int)).toNat)).length<=1024:=by rw[List.length_set];exact rR
       have US:=Za hJ;have hJ2:(J:Int)<(q.length:Int):=by omega
       have V2:=U2.aq (q:=g) (by have:=hgw.out;omega) J (.int .u8 (16*y+(X:Int)));have V7:=U7.aq (q:=g) (by omega) J (.int .u8 (16*y+(X:Int)));have B5:=B4.setCell (p:=⟨g,J,none⟩) (by have:=hgw.out;show _<=g;omega) (.int .u8 (16*y+(X:Int)));generalize q.set J (UInt8.ofNat (16*y+(X:Int)).toNat)=q2 at*;have UT:0<=16*y+(X:Int)/\16*y+(X:Int)<256:=by omega
       clear hev hod HA2 hJ hcell hfz hset e1 e2 U2 U7 O4 B4 HAt hy;go_wp2_with fail
       refine⟨⟨I+1,a1,q2,HI1.out,by go_num,rfl,DY.out,LZ,hsl,hsJ,V2,V7,B5⟩,by simp[intOf];omega⟩
    ·have hIn:(I:Int)=2*n:=by omega
     have hk1:decide ((I:Int)<2*n)=false:=by simpa using hlt
     obtain⟨m,hm⟩:∃m:Nat,n=(m:Int):=⟨n.toNat,by omega⟩
     have hrk:=HAt.out.last (n:=n.toNat) (by omega);obtain⟨k1,k2,k3⟩:=Cd.LS H0.out (n:=n) (by omega) hrk
     have hso:(⟨q.toArray⟩:ByteArray).size<=140737488355328:=by
      show q.toArray.size<=_;simp;omega
     have hwr:=λw=>DQ f ⟨q.toArray⟩ w hso
     rw[k1]at hwr;have hcv:=pJ (l:=q) ho;have h8:=Hr.out.symm.trans k3;have hbe:=nN (VO f ⟨q.toArray⟩).1 b;generalize (VO f ⟨q.toArray⟩).1=t at*;clear hIn hm hrk k1 k2 k3 hfr;go_wp2_with (refine wpList_load_row rfl 142 _ rfl w.heap.size rfl 142 (arr f) (0,0) _ T2.2 aF rfl hin ?_)
     refine mo (hwr _) λw4 G4=>?_
     have B4:=ag B3 G4;have hcv2:=pJ (l:=q) (Zz ho G4);clear hcv hwr T2 T7 B3 ho G4;by_cases ht:t=b
     ·rw[ax ht]at h8;simp only[Prod.mk.injEq]at h8;obtain⟨rfl,rfl⟩:=h8;rw[decide_eq_true ht]at hbe;clear ht;go_wp2_with fail
      go_ret2
      exact⟨rfl,B4⟩
     ·rw[ab ht]at h8;simp only[Prod.mk.injEq]at h8;obtain⟨rfl,rfl⟩:=h8;rw[decide_eq_false ht]at hbe;clear ht;go_wp2_with fail
      go_ret2
      exact⟨rfl,B4⟩
theorem uT(f:Nat->Int)(b:ByteArray)(n:Int)(w:World) :
 CB 124 #[.agg (arr f),.string b,.int .i64 n] w (.tuple #[.string (VP f b n).1,.int .i64 (VP f b n).2]):=by
 have hck:=λw=>rh f w
 have hin:=Zh f;have R1:=ai.new w f;have HB:ae w (w.alloc (.cells (arr f) 142)):=(bR _ _).alloc (nl _) _;by_cases h0:Wj f=0
 ·rw[h0]at hck;by_cases hn:n<0\/1024<n
  ·have h9:VP f b n=(⟨#[]⟩,3):=by rw[VP,ab (λh=>h h0),ax hn]
   rw[h9];clear h9 h0;go_enter func124,ntmps124
   go_wp2_with (refine wpList_load_row rfl 142 _ rfl w.heap.size rfl 142 (arr f) (0,0) _ R1.2 aF rfl hin ?_)
   refine mo (hck _) λw1 G1=>?_
   have B1:=ag HB G1;clear R1 HB G1 hck;go_wp2_with fail
   refine mo (re n 0 1024 _ (by omega)) λw' hw'=>?_
   subst hw';clear hn;go_wp2_with fail
   go_ret2
   exact⟨rfl,B1⟩
  ·by_cases hb4:(b.size:Int)<=4*n
   ·exact LW f b n w h0 (by omega) (by omega) hb4
   ·have h9:VP f b n=(⟨#[]⟩,1):=Cd.LR h0 hn (by omega);rw[h9];have hn0:0<=n:=by omega
    have hn1:n<=1024:=by omega
    have db:=al (by omega:4*n<(b.size:Int));clear h9 h0 hn hb4;go_enter func124,ntmps124
    go_wp2_with (refine wpList_load_row rfl 142 _ rfl w.heap.size rfl 142 (arr f) (0,0) _ R1.2 aF rfl hin ?_)
    refine mo (hck _) λw1 G1=>?_
    have B1:=ag HB G1;clear R1 HB G1 hck;go_wp2_with fail
    refine mo (lG n 0 1024 _ hn0 hn1) λw' hw'=>?_
    subst hw';go_wp2_with fail
    go_ret2
    exact⟨rfl,B1⟩
 ·have h9:VP f b n=(⟨#[]⟩,Wj f):=by rw[VP,ax h0]
  rw[h9];generalize Wj f=E at*;have d0:(E != 0)=true:=by simpa using h0
  clear h9 h0;go_enter func124,ntmps124
  go_wp2_with (refine wpList_load_row rfl 142 _ rfl w.heap.size rfl 142 (arr f) (0,0) _ R1.2 aF rfl hin ?_)
  refine mo (hck _) λw1 G1=>?_
  have B1:=ag HB G1;clear R1 HB G1 hck;go_wp2_with fail
  go_ret2
  exact⟨rfl,B1⟩
namespace Bk
def WK(f:Nat->Int)(k:Nat):List UInt8:=(List.range k).map λj=>UInt8.ofNat (f (2*j)*16+f (2*j+1)).toNat
def XG(f:Nat->Int):List UInt8:=WK f 8
theorem DZ(f:Nat->Int)(k:Nat):WK f (k+1)=WK f k++[UInt8.ofNat (f (2*k)*16+f (2*k+1)).toNat]:=by
 unfold WK;rw[List.range_succ,List.map_append];rfl
theorem YI(f:Nat->Int)(k:Nat):(WK f k).length=k:=by simp[WK]
end Bk
theorem L0{o:Oper}{a:Act}{K:Act->World->Prop}{Q:Exit->Act->World->Prop}(s x:Operand)
 (ho:o.op=.call { callee:=.builtin .append,args:=#[s,x],argTypes:=#[29,29] })
 (base:Nat) (v:Value) (l:List UInt8) (hs:a.eval s=v) (hown:w.ownsRow base 5 1 v l.length (cz l)) (n:Int) (hx:a.eval x=.slice (some ⟨w.heap.size,0,none⟩) 1 1)
 (hl:l.length<=100000) (hbase:base<=w.heap.size) (h0:0<=n) (h1:n<256)
 (h:∀v' w',w'.ownsRow base 5 1 v' (l++[UInt8.ofNat n.toNat]).length (cz (l++[UInt8.ofNat n.toNat]))->(w.alloc (.cells #[.int .u8 n] 5)).grownBy w' v.ownBlock->K (a.put o.dst v') w'):o.wp prog a (w.alloc (.cells #[.int .u8 n] 5)) K Q:=by
 obtain⟨i0,hi,hz0,hz1,hz2⟩:=info_parts oq;refine wp_append_own _ s x 29 ho base 5 i0 (.int .u8 0) 1 1 gE hi hz0 hz1 hz2 rfl (by decide) v l.length (cz l) hs (hown.alloc _) ⟨w.heap.size,0,none⟩ 1 1 [.int .u8 n] hx rfl (cell_one_new _ _ _) (nz _) (fb (by omega)) (by omega) (by simp;omega) ?_;intro v' w' h2 h3 _;refine h v' w' ?_ h3;rw[qZ l n h0 h1,List.length_append];exact h2
theorem L6{md:Region.Mode}{ops:Array Oper}{Q:Exit->Act->World->Prop}{S:World->Prop}{i:Nat}{o p:Oper}{fuel:Nat}{listed:Array Bool}{a:Act} 
 (hr:Region.ready md ops listed=[i]) (hr2:Region.ready md ops (listed.setIfInBounds i true)=[j]) (hr3:Region.ready md ops ((listed.setIfInBounds i true).setIfInBounds j true)=[]) (ho:ops[i]?=some o) (hp:ops[j]?=some p) (hg:o.guard=none) (mu:p.guard=none)
 (s x y:Operand) (hop:o.op=.call { callee:=.builtin .append,args:=#[s,x],argTypes:=#[29,29] }) (hpo:p.op=.assign y)
 (base:Nat) (v:Value) (l:List UInt8) (hs:a.eval s=v) (hown:w.ownsRow base 5 1 v l.length (cz l)) (hx:a.eval x=.slice (some ⟨w.heap.size,0,none⟩) 1 1)
 (hl:l.length<=100000) (hbase:base<=w.heap.size) (h0:0<=n) (h1:n<256) (hy:∀v',(a.put o.dst v').eval y=v')
 (h:∀v' w',w'.ownsRow base 5 1 v' (l++[UInt8.ofNat n.toNat]).length (cz (l++[UInt8.ofNat n.toNat]))->(w.alloc (.cells #[.int .u8 n] 5)).grownBy w' v.ownBlock->S w'/\Q .normal ((a.put o.dst v').put p.dst v') w'):wpAnyH prog md ops Q S (fuel+2) listed a (w.alloc (.cells #[.int .u8 n] 5)) :=
 wpAnyH_all (fuel:=fuel+1) hr (by simp) (λk hk=>by
  obtain rfl:k=i:=by simpa using hk
  refine wpOp_step ho (λK hK=>DC hg ?_);refine L0 s x hop base v l hs hown n hx hl hbase h0 h1 (λv' w' h2 h3=>hK _ _ ?_);obtain⟨h4,h5⟩:=h v' w' h2 h3;refine⟨h4,DJ (i:=j) (o:=p) (v:=v') hr2 hr3 hp (Or.inl ⟨by simp[Region.wanted,mu],λw _=>?_⟩) h4 h5⟩;unfold execOp
  simp only[hpo,hy,Sem.run_pure])
theorem L7(f:Nat->Int)(w:World)(hR:Wk f 15 16) :
 CB 186 #[.agg (arr f)] w (.string ⟨(XG f).toArray⟩):=by
 have R1:=ai.new w f;have B1:ae w (w.alloc (.cells (arr f) 142)):=(bR _ _).alloc (nl _) _;have HR:=Za hR;clear hR;go_enter func186,ntmps186
 go_wp2_with fail
 generalize w.alloc (.cells (arr f) 142)=w0 at*;go_loopw [3,5] (λv i wr=>∃k:Nat,k<=8/\i=.int .i64 k/\wr.ownsRow (w.heap.size+1) 5 1 v (WK f k).length (cz (WK f k))/\ai wr w.heap.size f/\ae w wr) (λ_ i _=>8-(intOf i).toNat)
 case atStart=>exact⟨0,by omega,rfl,World.ownsRow_nil _ _ _ _,R1,B1⟩
 case round =>
  clear R1 B1;obtain⟨k,hk,rfl,ho,R1,B1⟩:=hrel;by_cases hlt:k<8
  ·have hk1:=al (by omega:(k:Int)<8);have hk2:=al (by omega:k<8)
   obtain⟨K2,cV⟩:∃K2,2*k=K2:=⟨_,rfl⟩
   obtain⟨K3,cW⟩:∃K3,2*k+1=K3:=⟨_,rfl⟩
   have hK2:K2<16:=by omega
   have hK3:K3<16:=by omega
   have m2:2*(k:Int)=(K2:Int):=by omega
   have m3:(K2:Int)+1=(K3:Int):=by omega
   have jN:(K2:Int)<16:=by omega
   have jO:(K3:Int)<16:=by omega
   have HN:=DZ f k;rw[cW,cV]at HN;have cK:=Za HN;have hx:=HR.out K2 hK2;have hy:=HR.out K3 hK3;have hlen:(WK f k).length<=100000:=by rw[YI];omega
   have hcs:∀w',ai w' w.heap.size f->w'.cell? ⟨w.heap.size,K2,none⟩=some (.int .i64 (f K2))/\w'.cell? ⟨w.heap.size,K3,none⟩=some (.int .i64 (f K3)):=λw' h=>⟨h.cell K2 hK2,h.cell K3 hK3⟩
   have HC:=Za hcs;clear HN hcs cV cW
   obtain⟨x,hxe⟩:∃x,f K2=x:=⟨_,rfl⟩
   obtain⟨y,hye⟩:∃y,f K3=y:=⟨_,rfl⟩
   rw[hxe,hye]at cK HC;rw[hxe]at hx;rw[hye]at hy;clear hxe hye;obtain⟨hx0,hx1⟩:=hx;obtain⟨hy0,hy1⟩:=hy;have w1:IntKind.i64.wrap (x*16)=x*16:=IntWalk.i64_in _ ⟨by omega,by omega⟩;have w2:IntKind.i64.wrap (x*16+y)=x*16+y:=IntWalk.i64_in _ ⟨by omega,by omega⟩;have w3:IntKind.u8.wrap (x*16+y)=x*16+y:=IntWalk.u8_in _ ⟨by omega,by omega⟩;have w4:IntKind.i64.wrap (K2:Int)=(K2:Int):=IntWalk.i64_in _ ⟨by omega,by omega⟩;have w5:IntKind.i64.wrap (K3:Int)=(K3:Int):=IntWalk.i64_in _ ⟨by omega,by omega⟩;go_wp2_with fail
   refine wp_region_held_drew (S:=λw'=>ai w' w.heap.size f/\True) (by kernel_rfl) ⟨R1,trivial⟩ (λhS=>?_);refine wK (i:=0) (fuel:=15) (v:=u3) rfl (by kernel_rfl) (by kernel_rfl) (by kernel_rfl) (λ_ _ _ h=>h) (Or.inl ⟨by rfl,λw hw'=>by go_simp⟩) hS ?_;refine wK (i:=1) (fuel:=14) (v:=.int .i64 (k:Int)) rfl (by kernel_rfl) (by kernel_rfl) (by kernel_rfl) (λ_ _ _ h=>h) (Or.inl ⟨by rfl,λw hw'=>by go_simp⟩) hS ?_;refine wK (i:=2) (fuel:=13) (v:=.int .i64 (K2:Int)) rfl (by kernel_rfl) (by kernel_rfl) (by kernel_rfl) (λ_ _ _ h=>h) (Or.inl ⟨by rfl,λw hw'=>by go_simp⟩) hS ?_;refine wK (i:=3) (fuel:=12) (v:=.pointer (some ⟨w.heap.size,K2,none⟩)) rfl (by kernel_rfl) (by kernel_rfl) (by kernel_rfl) (λ_ _ _ h=>h) (Or.inl ⟨by rfl,λw hw'=>by go_simp⟩) hS ?_;refine wK (i:=4) (fuel:=11) (v:=.int .i64 x) rfl (by kernel_rfl) (by kernel_rfl) (by kernel_rfl) (λ_ _ _ h=>h) (Or.inl ⟨by rfl,λw hw'=>by have rZ:=(HC.out _ hw'.1).1;go_simp⟩) hS ?_;refine wK (i:=5) (fuel:=10) (v:=.int .i64 (x*16)) rfl (by kernel_rfl) (by kernel_rfl) (by kernel_rfl) (λ_ _ _ h=>h) (Or.inl ⟨by rfl,λw hw'=>by go_simp⟩) hS ?_;refine wK (i:=6) (fuel:=9) (v:=.int .i64 (k:Int)) rfl (by kernel_rfl) (by kernel_rfl) (by kernel_rfl) (λ_ _ _ h=>h) (Or.inl ⟨by rfl,λw hw'=>by go_simp⟩) hS ?_;refine wK (i:=7) (fuel:=8) (v:=.int .i64 (K2:Int)) rfl (by kernel_rfl) (by kernel_rfl) (by kernel_rfl) (λ_ _ _ h=>h) (Or.inl ⟨by rfl,λw hw'=>by go_simp⟩) hS ?_;refine wK (i:=8) (fuel:=7) (v:=.int .i64 (K3:Int)) rfl (by kernel_rfl) (by kernel_rfl) (by kernel_rfl) (λ_ _ _ h=>h) (Or.inl ⟨by rfl,λw hw'=>by go_simp⟩) hS ?_;refine wK (i:=9) (fuel:=6) (v:=.pointer (some ⟨w.heap.size,K3,none⟩)) rfl (by kernel_rfl) (by kernel_rfl) (by kernel_rfl) (λ_ _ _ h=>h) (Or.inl ⟨by rfl,λw hw'=>by go_simp⟩) hS ?_;refine wK (i:=10) (fuel:=5) (v:=.int .i64 y) rfl (by kernel_rfl) (by kernel_rfl) (by kernel_rfl) (λ_ _ _ h=>h) (Or.inl ⟨by rfl,λw hw'=>by have rZ:=(HC.out _ hw'.1).2;go_simp⟩) hS ?_;refine wK (i:=11) (fuel:=4) (v:=.int .i64 (x*16+y)) rfl (by kernel_rfl) (by kernel_rfl) (by kernel_rfl) (λ_ _ _ h=>h) (Or.inl ⟨by rfl,λw hw'=>by go_simp⟩) hS ?_;refine wK (i:=12) (fuel:=3) (v:=.int .u8 (x*16+y)) rfl (by kernel_rfl) (by kernel_rfl) (by kernel_rfl) (λ_ _ _ h=>h) (Or.inl ⟨by rfl,λw hw'=>by go_simp⟩) hS ?_;refine aR 13 2 rfl λK hK=>?_
   go_simp
   have D5:ai (wr.alloc (.cells #[.int .u8 (x*16+y)] 5)).drew w.heap.size f:=R1.alloc _;refine hK.out _ _ ⟨D5,trivial⟩ (λ_=>?_);clear hK D5;have hne:∀q,q<=w.heap.size->some q≠Value.ownBlock u3:=λq hq e=>by have:=(ho.lt q e.symm).1;omega
   refine L6 (w:=wr.drew) (i:=14) (j:=15) (fuel:=0) (by kernel_rfl) (by kernel_rfl) (by kernel_rfl) rfl rfl rfl rfl _ _ _ rfl rfl (w.heap.size+1) u3 (WK f k) rfl ho rfl hlen (by have:=R1.1;show _<=wr.heap.size;omega) (by omega) (by omega) (λv'=>rfl) ?_;intro v' w6 hown' hgrow;have V1:=(show ai wr.drew w.heap.size f from R1).grown (hne _ (nl _)) hgrow;refine⟨⟨V1,trivial⟩,?_⟩;have B6:=((show ae w wr.drew from B1.drew).alloc B1.size _).grown hgrow (by have:=B1.size;show _<=(wr.alloc _).heap.size;simp;omega) (λj hj=>by have:=(ho.lt j hj).1;omega);rw[<-cK.out]at hown';go_wp2_with fail
   exact⟨⟨k+1,by omega,by go_num,hown',V1,B6⟩,by simp[intOf];omega⟩
  ·obtain rfl:k=8:=by omega
   have hk1:decide ((8:Int)<8)=false:=by decide
   have hcv:=pJ (l:=WK f 8) ho;go_wp2_with fail
   go_ret
   exact⟨rfl,B1⟩
set_option linter.unusedVariables false
theorem D6(f:Nat->Int)(s:ByteArray):(VO f s).1.size<=140737488355328:=by
 have z:(⟨#[]⟩:ByteArray).size<=140737488355328:=by decide
 unfold VO;by_cases h:Wj f=0
 ·rw[ab (λh9=>h9 h)];by_cases h1:1024<s.size
  ·rw[ax h1];exact z
  ·rw[ab h1]
   cases hq:Yd f s s.size with
   |none=>exact z
   |some bs =>
    simp only;rw[rU];have:=pV (Yc h).1 _ bs hq;omega
 ·rw[ax h];exact z
theorem L8(f:Nat->Int)(b:ByteArray)(n:Int)(h:(VP f b n).2=0):(VP f b n).1.size<=140737488355328:=by
 obtain⟨_,h2⟩:=Dz h;by_cases hn:n<0\/1024<n
 ·by_cases hc:Wj f=0
  ·rw[VP,ab (λh=>h hc),ax hn];exact(by decide:(⟨#[]⟩:ByteArray).size<=140737488355328)
  ·rw[VP,ax hc];exact(by decide:(⟨#[]⟩:ByteArray).size<=140737488355328)
 ·omega
end Go.Proofs.YtbjbjbpgmojcbacGreatDoor
