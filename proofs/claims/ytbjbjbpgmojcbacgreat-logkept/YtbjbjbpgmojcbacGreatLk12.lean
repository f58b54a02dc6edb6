/- A part of the proof: what it leans on. -/
import Derived.Test.YtbjbjbpgmojcbacGreatLk11
set_option maxRecDepth 4000
set_option maxHeartbeats 2000000
namespace Go.Proofs.YtbjbjbpgmojcbacGreat
open Go.RowKit
def arrS (h:Nat->ByteArray):Array Value:=((List.range 16).map fun i=>Value.string (h i)).toArray
theorem Zbg (h:Nat->ByteArray):(arrS h).size=16:=by simp [arrS]
theorem Zik (h:Nat->ByteArray) (i:Nat) (hi:i<16):(arrS h)[i]?=some (.string (h i)):=by simp [arrS,hi]
theorem Znr:(Tryz.prog.info? 160).map (·.size)=some 16:=by kernel_rfl
theorem ZcR (h:Nat->ByteArray):(Tryz.prog.info? 160).map (·.size)=some (arrS h).size:=by rw [Zbg];exact Znr
theorem ZkJ {h g:Nat->ByteArray} (e:∀ i,i<16->h i=g i):arrS h=arrS g:=by
 unfold arrS
 congr 1
 apply List.map_congr_left;intro i hi;rw [e i (List.mem_range.1 hi)]
def updB (h:Nat->ByteArray) (k:Nat) (v:ByteArray):Nat->ByteArray:=fun i=>if i=k then v else h i
theorem ZpI (h:Nat->ByteArray) (k:Nat) (v:ByteArray):(arrS h).setIfInBounds k (.string v)=arrS (updB h k v):=by
 apply Array.ext_getElem?;intro i;rw [Array.getElem?_setIfInBounds,Zbg];by_cases hi:i<16
 ·rw [Zik _ i hi,Zik _ i hi];by_cases e:k=i
  ·subst e;simp [updB,hi]
  ·have e':¬ i=k:=fun h=>e h.symm
   simp [updB,e,e']
 ·have h1:(arrS h)[i]?=none:=by rw [Array.getElem?_eq_none];rw [Zbg];omega
  have h2:(arrS (updB h k v))[i]?=none:=by rw [Array.getElem?_eq_none];rw [Zbg];omega
  rw [h1,h2];split
  ·rename_i e;subst e;simp [hi]
  ·rfl
theorem Zer:(#[.string ⟨#[]⟩,.string ⟨#[]⟩,.string ⟨#[]⟩,.string ⟨#[]⟩,.string ⟨#[]⟩,.string ⟨#[]⟩,.string ⟨#[]⟩,.string ⟨#[]⟩,.string ⟨#[]⟩,.string ⟨#[]⟩,.string ⟨#[]⟩,.string ⟨#[]⟩,.string ⟨#[]⟩,.string ⟨#[]⟩,.string ⟨#[]⟩,.string ⟨#[]⟩]:Array Value)=arrS (fun _=>⟨#[]⟩):=rfl
theorem Zfi (h:Nat->ByteArray):(arrS h).all (·.oneCell')=true:=by
 rw [Array.all_eq_true_iff_forall_mem];intro v hv;simp [arrS] at hv;obtain ⟨i,_,rfl⟩:=hv;rfl
def StAt (w:World) (g:Nat) (h:Nat->ByteArray):Prop:=g<w.heap.size/\w.heap[g]?=some (.cells (arrS h) 160 (0,0))
theorem StAt.new (w:World) (h:Nat->ByteArray):StAt (w.alloc (.cells (arrS h) 160)) w.heap.size h:=⟨by simp,heap_alloc_last w _⟩
theorem StAt.below {w w':World} {g:Nat} {h:Nat->ByteArray} (H:StAt w g h) (hb:Below w.heap.size w w'):StAt w' g h:=⟨Nat.lt_of_lt_of_le H.1 hb.size,by rw [hb.block g H.1];exact H.2⟩
theorem StAt.alloc {w:World} {g:Nat} {h:Nat->ByteArray} (H:StAt w g h) (o:Obj):StAt (w.alloc o) g h:=H.below ((Below.refl _ _).alloc (Nat.le_refl _) o)
theorem StAt.cell {w:World} {g:Nat} {h:Nat->ByteArray} (H:StAt w g h) (k:Nat) (hk:k<16):w.cell? ⟨g,k,none⟩=some (.string (h k)):=by rw [cell_of_row w g k _ _ _ H.2,Zik h k hk]
theorem StAt.frozen {w:World} {g:Nat} {h:Nat->ByteArray} (H:StAt w g h) (k:Nat):w.frozen? ⟨g,k,none⟩=false:=by simp [World.frozen?,H.2]
theorem StAt.set {w:World} {g:Nat} {h:Nat->ByteArray} (H:StAt w g h) (k:Nat) (v:ByteArray):StAt (w.setCell ⟨g,k,none⟩ (.string v)) g (updB h k v):=by
 refine ⟨by have:=H.1;simpa [World.setCell] using this,?_⟩;rw [ZcB H.2,ZpI]
theorem StAt.setFar {w:World} {g:Nat} {h:Nat->ByteArray} (H:StAt w g h) {q:Nat} (hq:q ≠ g) (k:Nat) (v:Value):StAt (w.setCell ⟨q,k,none⟩ v) g h:=by
 refine ⟨by have:=H.1;simpa [World.setCell] using this,?_⟩;rw [ZcH hq];exact H.2
theorem StAt.setRow {w:World} {g:Nat} {h:Nat->ByteArray} (H:StAt w g h) (h':Nat->ByteArray):StAt (w.setRow g (arrS h')) g h':=by
 refine ⟨by have:=H.1;simpa [World.setRow] using this,?_⟩;show (w.heap.modify g _)[g]?=_;rw [Array.getElem?_modify,if_pos rfl,H.2];rfl
theorem StAt.congr {w:World} {g:Nat} {h h':Nat->ByteArray} (H:StAt w g h) (e:∀ i,i<16->h i=h' i):StAt w g h':=⟨H.1,by rw [H.2,ZkJ e]⟩
namespace Cd
def oS (f:Nat->Int) (n k:Nat) (i:Nat):ByteArray:=if (1<=f i/\f i<=(n:Int))\/(f i=((n+1:Nat):Int)/\i<k) then str (cw f i) else ⟨#[]⟩
theorem Zsu (f:Nat->Int) (h:InR f 15 16) (i:Nat) (hi:i<16):(⟨#[]⟩:ByteArray)=oS f 0 0 i:=by
 have:=h i hi;rw [oS,if_neg (by omega)]
theorem Zsz (f:Nat->Int) (n k:Nat) (h:f k=((n+1:Nat):Int)) (i:Nat):updB (oS f n k) k (str (cw f k)) i=oS f n (k+1) i:=by
 unfold updB oS;by_cases e:i=k
 ·subst e;rw [if_pos rfl,if_pos (by omega)]
 ·rw [if_neg e];by_cases h1:(1<=f i/\f i<=(n:Int))\/(f i=((n+1:Nat):Int)/\i<k)
  ·rw [if_pos h1,if_pos (by omega)]
  ·rw [if_neg h1,if_neg (by omega)]
theorem ZrB (f:Nat->Int) (n k:Nat) (h:¬ f k=((n+1:Nat):Int)) (i:Nat):oS f n k i=oS f n (k+1) i:=by
 unfold oS;by_cases e:i=k
 ·subst e;by_cases h1:1<=f i/\f i<=(n:Int)
  ·rw [if_pos (.inl h1),if_pos (.inl h1)]
  ·rw [if_neg (by omega),if_neg (by omega)]
 ·by_cases h1:(1<=f i/\f i<=(n:Int))\/(f i=((n+1:Nat):Int)/\i<k)
  ·rw [if_pos h1,if_pos (by omega)]
  ·rw [if_neg h1,if_neg (by omega)]
theorem ZsK (f:Nat->Int) (n:Nat) (i:Nat) (hi:i<16):oS f n 16 i=oS f (n+1) 0 i:=by
 unfold oS;by_cases h1:(1<=f i/\f i<=(n:Int))\/(f i=((n+1:Nat):Int)/\i<16)
 ·rw [if_pos h1,if_pos (by omega)]
 ·rw [if_neg h1,if_neg (by omega)]
theorem Zua (f:Nat->Int) (h:InR f 15 16) (i:Nat) (hi:i<16):oS f 15 0 i=str (cw f i):=by
 have:=h i hi;unfold oS;by_cases h0:f i=0
 ·rw [if_neg (by omega),cw,h0];rfl
 ·rw [if_pos (by omega)]
theorem ZtH (f:Nat->Int) (n:Int) (x:Int × (Nat->Int)) (k:Nat) (h:f k=n):∀ j,(wI f n x (k+1+j)).2 k=(wI f n x k).1:=by
 intro j
 induction j with
 | zero=>rw [Nat.add_zero,wI,if_pos h];exact ZC _ _ _
 | succ j ih =>
  rw [<-Nat.add_assoc,wI];split
  ·simp only;rw [Zg _ _ (by omega)];exact ih
  ·exact ih
theorem ZtS {f:Nat->Int} {n k:Nat} (hk:k<16) (hn:n+1<=15) (h:f k=((n+1:Nat):Int)):wds f k=(wI f ((n+1:Nat):Int) ((wO f n).1*2,(wO f n).2) k).1:=by
 have h1:=Zfp f k n h (15 - (n+1));rw [show n+1+(15 - (n+1))=15 by omega] at h1;rw [wds,h1,wO];have h2:=ZtH f ((n+1:Nat):Int) ((wO f n).1*2,(wO f n).2) k h (15 - k);rw [show k+1+(15 - k)=16 by omega] at h2;exact h2
end Cd
theorem ZtI (w:World) (f:Nat->Int):RowAt (((w.alloc (.cells (arr f) 127)).alloc (.cells (arrS fun _=>⟨#[]⟩) 160)).alloc (.cells (arrS fun _=>⟨#[]⟩) 160)) w.heap.size f ∧
 StAt (((w.alloc (.cells (arr f) 127)).alloc (.cells (arrS fun _=>⟨#[]⟩) 160)).alloc (.cells (arrS fun _=>⟨#[]⟩) 160)) (w.heap.size+1) (fun _=>⟨#[]⟩) ∧
 StAt (((w.alloc (.cells (arr f) 127)).alloc (.cells (arrS fun _=>⟨#[]⟩) 160)).alloc (.cells (arrS fun _=>⟨#[]⟩) 160)) (w.heap.size+1+1) (fun _=>⟨#[]⟩) ∧
 Below w.heap.size w (((w.alloc (.cells (arr f) 127)).alloc (.cells (arrS fun _=>⟨#[]⟩) 160)).alloc (.cells (arrS fun _=>⟨#[]⟩) 160)):=by
 have a:=StAt.new (w.alloc (.cells (arr f) 127)) (fun _=>⟨#[]⟩);have b:=StAt.new ((w.alloc (.cells (arr f) 127)).alloc (.cells (arrS fun _=>⟨#[]⟩) 160)) (fun _=>⟨#[]⟩);refine ⟨((RowAt.new w f).alloc _).alloc _,?_,?_,(((bR _ _).alloc (nl _) _).alloc (by simp) _).alloc (by simp;omega) _⟩
 ·have:=a.alloc (.cells (arrS fun _=>⟨#[]⟩) 160);simpa using this
 ·simpa using b
theorem Zdo (f:Nat->Int) (w:World) (hR:Cd.InR f 15 16) :
 Calls Tryz.prog 134 #[.agg (arr f)] w fun e w'=>e=.returned (.agg (arrS fun i=>Cd.str (Cd.cw f i)))/\Below w.heap.size w w':=by
 obtain ⟨R1,R2,R3,HB⟩:=ZtI w f;rw [<-Zer] at R1 R2 R3 HB;have HR:Hid (Cd.InR f 15 16):=hR;clear hR
 obtain ⟨hS,hSe⟩:∃ h,(fun i=>Cd.str (Cd.cw f i))=h:=⟨_,rfl⟩
 rw [hSe];have HS:Hid ((fun i=>Cd.str (Cd.cw f i))=hS):=hSe;clear hSe;go_enter Tryz.func134,Tryz.ntmps134
 go_wp2_with fail
 rw [Zer] at R1 R2 R3 HB;rw [Zer];generalize ((w.alloc (.cells (arr f) 127)).alloc (.cells (arrS fun _=>⟨#[]⟩) 160)).alloc (.cells (arrS fun _=>⟨#[]⟩) 160)=w0 at *
 obtain ⟨g1,hg1⟩:∃ g1,g1=w.heap.size:=⟨_,rfl⟩
 have hq1:Hid (g1<w.heap.size+1/\w.heap.size+1<w.heap.size+1+1/\w.heap.size<=g1):=by show _/\_/\_;omega
 generalize w.heap.size+1+1=g3 at *;generalize w.heap.size+1=g2 at *;clear hg1;have R3':=R3.congr (h':=Cd.oS f 0 0) (fun i hi=>Cd.Zsu f HR.out i hi);go_loopw [4,5,6] (fun x l i wr=>∃ (n:Nat) (N1 X L:Int),n<=15/\i=.int .i64 N1/\Hid (N1=(n+1:Nat))/\x=.int .i64 X/\l=.int .i64 L/\0<=X/\0<=L/\Hid (L<=n/\X*2 ^ (n - L.toNat)=(Cd.wO f n).1)/\RowAt wr w.heap.size f/\StAt wr g2 (fun _=>⟨#[]⟩)/\StAt wr g3 (Cd.oS f n 0)/\Below w.heap.size w wr) (fun _ _ i _=>20 - (intOf i).toNat)
 case atStart=>exact ⟨0,1,0,0,by omega,rfl,rfl,rfl,rfl,by omega,by omega,⟨by omega,by simp [Cd.wO]⟩,R1,R2,R3',HB⟩
 case round =>
  clear R1 R2 R3 R3' HB;obtain ⟨n,N1,X,L,hn,rfl,HN1,rfl,rfl,hX,hL,HX,R1,R2,R3,HB⟩:=hrel;have hNb:1<=N1/\N1<=16:=by have:=HN1.out;omega
  by_cases hlt:n<15
  ·have hk1:decide (N1<=15)=true:=by have:=HN1.out;simp;omega
   have Hn:Hid (n<15):=hlt
   have HX0:Hid (L<=((n+1:Nat):Int)/\X*2 ^ (n+1 - L.toNat)=(Cd.wI f ((n+1:Nat):Int) ((Cd.wO f n).1*2,(Cd.wO f n).2) 0).1):=by
    obtain ⟨h1,h2⟩:=HX.out;refine ⟨by omega,?_⟩;show _=(Cd.wO f n).1*2;rw [<-h2,show n+1 - L.toNat=(n - L.toNat)+1 by omega,Int.pow_succ,Int.mul_assoc]
   clear hn hlt;go_wp2_with fail
   go_loopw [4,5,7] (fun x l i wr=>∃ (k:Nat) (X L:Int),k<=16/\i=.int .i64 k/\x=.int .i64 X/\l=.int .i64 L/\0<=X/\0<=L/\Hid (L<=((n+1:Nat):Int)/\X*2 ^ (n+1 - L.toNat)=(Cd.wI f ((n+1:Nat):Int) ((Cd.wO f n).1*2,(Cd.wO f n).2) k).1)/\RowAt wr w.heap.size f/\StAt wr g2 (fun _=>⟨#[]⟩)/\StAt wr g3 (Cd.oS f n k)/\Below w.heap.size w wr) (fun _ _ i _=>16 - (intOf i).toNat)
   case atStart=>exact ⟨0,X,L,by omega,rfl,rfl,rfl,hX,hL,HX0,R1,R2,R3,HB⟩
   case round =>
    clear R1 R2 R3 HB HX HX0 hX hL;obtain ⟨k,X,L,hk,rfl,rfl,rfl,hX,hL,HX,R1,R2,R3,HB⟩:=hrel;by_cases hlt2:k<16
    ·have hk2:decide ((k:Int)<16)=true:=by simp;omega
     have hk3:decide (k<16)=true:=by simp;omega
     have hc1:=R1.cell k hlt2;by_cases hx:f k=N1
     ·have d1:(f k == N1)=true:=by simpa using hx
      have hfn:f k=((n+1:Nat):Int):=by rw [hx];exact HN1.out
      have hw:=Cd.ZtS hlt2 (by have:=Hn.out;omega) hfn;have hwv:=Cd.Znm f k
      obtain ⟨d,hd⟩:∃ d:Nat,n+1 - L.toNat=d:=⟨_,rfl⟩
      have hNL:N1 - L=(d:Int):=by have:=HN1.out;have:=HX.out.1;omega
      have hXd:X*2 ^ d=Cd.wds f k:=by rw [hw,<-HX.out.2,hd]
      have hbt:=fun w=>ZeD (n+1) (Cd.wds f k) w hwv.1 hwv.2 (by have:=Hn.out;omega)
      rw [<-HN1.out] at hbt;have hcw:Cd.wb (Cd.wds f k) (n+1)=Cd.cw f k:=by rw [Cd.cw,hfn];rfl
      rw [hcw] at hbt;have R4:=fun wx (h:StAt wx g3 (Cd.oS f n k))=>(h.set k (Cd.str (Cd.cw f k))).congr (fun i _=>Cd.Zsz f n k hfn i)
      have HW:Hid ((n+1:Nat)<=((n+1:Nat):Int)/\(Cd.wds f k+1)*2 ^ (n+1 - (n+1))=(Cd.wI f ((n+1:Nat):Int) ((Cd.wO f n).1*2,(Cd.wO f n).2) (k+1)).1):=by
       refine ⟨by omega,?_⟩;rw [Cd.wI,if_pos hfn,Nat.sub_self,Int.pow_zero,Int.mul_one,hw]
      generalize Cd.str (Cd.cw f k)=sk at *;generalize f k=z at *;clear hfn hw hcw;have hLN:L<=N1:=by omega
      have hd15:d<=15:=by have:=HN1.out;have:=Hn.out;omega
      clear hd;generalize Cd.wds f k=wk at *;go_wp2_with fail
      refine (hbt _).mono ?_;rintro e w4 ⟨rfl,G4⟩;have T1:=R1.below G4;have T2:=R2.below G4;have T3:=R3.below G4;have B4:=bch HB G4 (nl _);have hc3:=T3.cell k hlt2;have hf3:=T3.frozen k;have U3:=R4 _ T3;have U1:=T1.setFar (q:=g3) (by have:=hq1.out;omega) k (.string sk);have U2:=T2.setFar (q:=g3) (by have:=hq1.out;omega) k (.string sk);have B5:=B4.setCell (p:=⟨g3,k,none⟩) (by have:=hq1.out;show _<=g3;omega) (.string sk);clear R1 R2 R3 HB G4 T1 T2 T3 B4 R4 hbt hx;go_wp2_with fail
      go_roundw
      case rel=>exact ⟨k+1,wk+1,N1,by omega,by go_num,rfl,rfl,by omega,by omega,by rw [HN1.out];exact ⟨HW.out.1,by rw [Int.toNat_natCast];exact HW.out.2⟩,U1,U2,U3,B5⟩
      case measure=>simp [intOf];omega
     ·have d1:(f k == N1)=false:=by simpa using hx
      have HS:Hid (¬ f k=((n+1:Nat):Int)):=fun h=>hx (by rw [h];exact HN1.out.symm)
      have HW:Hid (L<=((n+1:Nat):Int)/\X*2 ^ (n+1 - L.toNat)=(Cd.wI f ((n+1:Nat):Int) ((Cd.wO f n).1*2,(Cd.wO f n).2) (k+1)).1):=by
       refine ⟨HX.out.1,?_⟩;rw [Cd.wI,if_neg HS.out];exact HX.out.2
      have R4:=R3.congr (h':=Cd.oS f n (k+1)) (fun i _=>Cd.ZrB f n k HS.out i);generalize f k=z at *;clear hx HS;go_wp2_with fail
      go_roundw
      case rel=>exact ⟨k+1,X,L,by omega,by go_num,rfl,rfl,hX,hL,HW,R1,R2,R4,HB⟩
      case measure=>simp [intOf];omega
    ·obtain rfl:k=16:=by omega
     have R4:=R3.congr (h':=Cd.oS f (n+1) 0) (fun i hi=>Cd.ZsK f n i hi);have HW:Hid (L<=((n+1:Nat):Int)/\X*2 ^ (n+1 - L.toNat)=(Cd.wO f (n+1)).1):=HX.out;have HNn:Hid (N1+1=(n+1+1:Nat)):=by have:=HN1.out;show _=_;omega
     go_wp2_with fail
     go_roundw
     case rel=>exact ⟨n+1,N1+1,X,L,by have:=Hn.out;omega,by go_num,HNn,rfl,rfl,hX,hL,HW,R1,R2,R4,HB⟩
     case measure=>simp [intOf];omega
  ·obtain rfl:n=15:=by omega
   obtain rfl:N1=16:=by have:=HN1.out;omega
   have R4:StAt wr g3 hS:=R3.congr (fun i hi=>by rw [Cd.Zua f HR.out i hi,<-HS.out]);have hi1:=ZcR hS;clear R3;go_wp2_with (first | refine wpList_load_row rfl 160 _ rfl g3 rfl 160 (arrS hS) (0,0) _ R4.2 U160 rfl hi1 ?_ | refine wpList_store_row rfl 160 _ _ rfl g2 (arrS hS) rfl rfl 160 _ R2.2 hi1 (by rw [Zbg,Zbg]) (Zfi _) ?_)
   have U2:=R2.setRow hS;exact bodyPost_ret (v:=.agg (arrS hS)) (results_cell_row Tryz.results134 _ _ g2 160 _ (0,0) _ rfl U2.2 U160 rfl hi1) rfl ⟨rfl,Zn HB (by have:=hq1.out;omega) _⟩
namespace Cd
theorem Ztt (bs:List Bool) (k:Nat) (h:k<(str bs).size):((str bs)[k]).toNat=48+bq bs k:=by
 have hl:k<bs.length:=by rw [Zaa] at h;exact h
 have e:(str bs)[k]=chr (bs[k]):=by
  show (bs.map chr).toArray[k]'(by simpa using hl)=_;simp
 rw [e,bq,List.getD_eq_getElem?_getD,List.getElem?_eq_getElem hl];show _=48+bv bs[k]
 cases bs[k] <;> rfl
theorem Zud (bs:List Bool) (p i:Nat):bq (bs++List.replicate p false) i=bq bs i:=by
 by_cases h:i<bs.length
 ·exact ZiG h
 ·rw [ZaU bs (by omega)]
  obtain ⟨j,rfl⟩:∃ j,i=bs.length+j:=⟨i - bs.length,by omega⟩
  rw [ZfC,bq,List.getD_eq_getElem?_getD];by_cases h2:j<p
  ·rw [List.getElem?_replicate,if_pos h2];rfl
  ·rw [List.getElem?_replicate,if_neg h2];rfl
def vb (bs:List Bool) (a:Nat):Nat->Nat
 | 0=>0
 | r+1=>2*vb bs a r+bq bs (a+r)
theorem Zuz (bs:List Bool) (a:Nat):∀ r,vb bs a r<2 ^ r:=by
 intro r
 induction r with
 | zero=>simp [vb]
 | succ r ih=>have:=ZaE bs (a+r);rw [vb,Nat.pow_succ];omega
theorem Zus (bs:List Bool) (a:Nat) {r:Nat} (h:r<=8):vb bs a r<=255:=by
 have h1:=Zuz bs a r;have h2:2 ^ r<=2 ^ 8:=Nat.pow_le_pow_right (by omega) h;omega
theorem ZtF (bs:List Bool) (j:Nat):vb bs (8*j) 8=byt bs j:=by
 simp only [vb,byt,Nat.add_zero];omega
theorem ZsJ (bs:List Bool) {j:Nat} (h:j<(bs.length+7) / 8):(pk bs).take (j+1)=(pk bs).take j++[UInt8.ofNat (byt bs j)]:=by
 rw [List.take_add_one,Zkj bs h];rfl
end Cd
theorem Zgz (f:Nat->Int) (s:ByteArray) (w:World) (h0:Cd.chk f=0) (hs:s.size<=1024) :
 Calls Tryz.prog 136 #[.agg (arr f),.string s] w fun e w'=>e=.returned (.tuple #[.string (Cd.wrt f s).1,.int .i64 (Cd.wrt f s).2])/\Below w.heap.size w w':=by
 have hck:=fun w=>Zan f w
 rw [h0] at hck;have hR:Hid (Cd.InR f 15 16):=(Cd.Ze h0).1;have hwd:=fun w=>Zdo f w hR.out
 obtain ⟨hS,hSe⟩:∃ h,(fun i=>Cd.str (Cd.cw f i))=h:=⟨_,rfl⟩
 rw [hSe] at hwd;have HS:Hid ((fun i=>Cd.str (Cd.cw f i))=hS):=hSe;clear hSe;have hin:=Zb f;have hinw:=ZcR hS;have h0':Hid (Cd.chk f=0):=h0;have hs':(s.size:Int)<=1024:=by omega
 have ds:decide (1024<(s.size:Int))=false:=by simp;omega
 have R1:=RowAt.new w f;have HB:Below w.heap.size w (w.alloc (.cells (arr f) 127)):=(bR _ _).alloc (nl _) _
 obtain ⟨r1,r2,hr⟩:∃ r1 r2,Cd.wrt f s=(r1,r2):=⟨_,_,rfl⟩
 rw [hr];have Hr:Hid (Cd.wrt f s=(r1,r2)):=hr;clear hr h0;go_enter Tryz.func136,Tryz.ntmps136
 go_wp2_with (refine wpList_load_row rfl 127 _ rfl w.heap.size rfl 127 (arr f) (0,0) _ R1.2 U127 rfl hin ?_)
 refine (hck _).mono ?_;rintro e w1 ⟨rfl,G1⟩;have S1:=R1.below G1;have B1:=bch HB G1 (nl _);clear R1 HB G1 hck;go_wp2_with (refine wpList_load_row rfl 127 _ rfl w.heap.size rfl 127 (arr f) (0,0) _ S1.2 U127 rfl hin ?_)
 refine (hwd _).mono ?_;rintro e w2 ⟨rfl,G2⟩;have T1:=S1.below G2;have B2:=bch B1 G2 (nl _);clear S1 B1 G2 hwd;go_wp2_with (refine wpList_store_row rfl 160 _ _ rfl w2.heap.size (arrS hS) rfl rfl 160 _ (heap_alloc_last w2 _) hinw rfl (Zfi _) ?_;rw [World.setRow_alloc_new])
 have T7:=StAt.new w2 hS;have T2:=T1.alloc (.cells (arrS hS) 160);have B3:Below w.heap.size w (w2.alloc (.cells (arrS hS) 160)):=B2.alloc (nL T1.1) _;clear T1 B2;generalize w2.alloc (.cells (arrS hS) 160)=w3 at *;generalize w2.heap.size=g7 at *;go_loopw [8,9] (fun b i wr=>∃ (k:Nat) (bs:List Bool),k<=s.size/\i=.int .i64 k/\b=.string (Cd.str bs)/\Hid (Cd.wrK f s k=some bs)/\RowAt wr w.heap.size f/\StAt wr g7 hS/\Below w.heap.size w wr) (fun _ i _=>s.size - (intOf i).toNat)
 case atStart=>exact ⟨0,[],by omega,rfl,rfl,rfl,T2,T7,B3⟩
 case round =>
  clear T2 T7 B3;obtain ⟨k,bs,hk,rfl,rfl,hW,T2,T7,B3⟩:=hrel;have Hlen:Hid (bs.length<=30*k):=Cd.ZdT hR.out k bs hW.out;by_cases hlt:k<s.size
  ·have hk1:decide ((k:Int)<(s.size:Int))=true:=by simp;omega
   have hk2:decide (k<s.size)=true:=by simp;omega
   obtain ⟨x,hx⟩:∃ x:Int,(s[k].toNat:Int)=x:=⟨_,rfl⟩
   have hA:Cd.at8 s k=s[k].toNat:=by unfold Cd.at8;rw [Nm.ZL s k hlt];rfl
   have hA2:=Cd.ZaC s k;have hx0:0<=x:=by omega
   have hx1:x<=255:=by omega
   obtain ⟨H,hH⟩:∃ H,Cd.at8 s k / 16=H:=⟨_,rfl⟩
   obtain ⟨L,hL⟩:∃ L,Cd.at8 s k % 16=L:=⟨_,rfl⟩
   have e1:x / 16=(H:Int):=by omega
   have e2:x % 16=(L:Int):=by omega
   have e3:x.tdiv 16=(H:Int):=by rw [Int.tdiv_eq_ediv_of_nonneg hx0];exact e1
   have e4:x.tmod 16=(L:Int):=by rw [Int.tmod_eq_emod_of_nonneg hx0];exact e2
   have hH1:H<16:=by omega
   have hL1:L<16:=by omega
   have hH2:(H:Int)<16:=by omega
   have hL2:(L:Int)<16:=by omega
   have HN:Hid (¬ (f H=0\/f L=0)->Cd.wrK f s (k+1)=some (bs++Cd.cw f H++Cd.cw f L)):=fun h=>by have:=Cd.ZfN hW.out (by rw [hH,hL];exact h);rw [hH,hL] at this;exact this
   have HSt:Hid (f H=0\/f L=0->r1=⟨#[]⟩/\r2=5):=fun h=>by
    have h9:Cd.wrt f s=(⟨#[]⟩,5):=by
     rw [Cd.wrt,if_neg (fun h=>h h0'.out),if_neg (by omega),Cd.Zjj hlt hW.out (by rw [hH,hL];exact h)]
    have h8:=Hr.out.symm.trans h9;simpa using h8
   clear hA hA2 hH hL e1 e2;have c1:=T2.cell H hH1;have c2:=T2.cell L hL1;by_cases hz:f H=0
   ·obtain ⟨rfl,rfl⟩:=HSt.out (.inl hz);rw [hz] at c1;clear hz c2;go_wp2_with fail
    go_ret2
    exact ⟨rfl,B3⟩
   ·have d1:(f H == 0)=false:=by simpa using hz
    by_cases hy:f L=0
    ·obtain ⟨rfl,rfl⟩:=HSt.out (.inr hy);rw [hy] at c2;clear hz hy;go_wp2_with fail
     go_ret2
     exact ⟨rfl,B3⟩
    ·have d2:(f L == 0)=false:=by simpa using hy
     have HNN:Hid (Cd.wrK f s (k+1)=some (bs++Cd.cw f H++Cd.cw f L)):=HN.out (fun h=>h.elim hz hy);have c3:wr.cell? ⟨g7,H,none⟩=some (.string (Cd.str (Cd.cw f H))):=by rw [T7.cell H hH1,<-HS.out]
     have c4:wr.cell? ⟨g7,L,none⟩=some (.string (Cd.str (Cd.cw f L))):=by rw [T7.cell L hL1,<-HS.out]
     have sz1:(Cd.str bs).size<=30720:=by rw [Cd.Zaa];have:=Hlen.out;omega
     have sz2:(Cd.str (Cd.cw f H)).size<=15:=by rw [Cd.Zaa];exact Cd.Zhn hR.out hH1
     have sz3:(Cd.str (Cd.cw f L)).size<=15:=by rw [Cd.Zaa];exact Cd.Zhn hR.out hL1
     have HE:Hid (Cd.str bs++Cd.str (Cd.cw f H)++Cd.str (Cd.cw f L)=Cd.str (bs++Cd.cw f H++Cd.cw f L)):=by show _=_;rw [Cd.ZdW,Cd.ZdW]
     have sb1:¬ 9223372036854775807<(Cd.str bs).size+(Cd.str (Cd.cw f H)).size:=by omega
     have sb2:¬ 9223372036854775807<(Cd.str bs).size+(Cd.str (Cd.cw f H)).size+(Cd.str (Cd.cw f L)).size:=by omega
     generalize Cd.str (Cd.cw f H)=sH at *;generalize Cd.str (Cd.cw f L)=sL at *;generalize Cd.str bs=sB at *;clear hz hy HSt HN;go_wp2_with fail
     go_quiet (fail)
     go_wp2_with fail
     exact ⟨⟨k+1,_,by omega,by go_num,by rw [HE.out],HNN,T2.below (below_drewN (bR _ _) _),T7.below (below_drewN (bR _ _) _),below_drewN B3 _⟩,by simp [intOf];omega⟩
  ·obtain rfl:k=s.size:=by omega
   have h9:Cd.wrt f s=(⟨(Cd.pk bs).toArray⟩,0):=by
    rw [Cd.wrt,if_neg (fun h=>h h0'.out),if_neg (by omega),hW.out]
   have h8:=Hr.out.symm.trans h9;simp only [Prod.mk.injEq] at h8;obtain ⟨rfl,rfl⟩:=h8;have hbl:bs.length<=30720:=by have:=Hlen.out;omega
   clear h9 T2 T7 hW Hlen hin hinw;have HBL:Hid (bs.length<=30720):=hbl;have hst:Cd.str bs=Cd.str (bs++List.replicate 0 false):=by simp
   rw [hst];clear hst;go_wp2_with fail
   go_loopg [8] ((8 - bs.length % 8) % 8) (fun n b wx=>∃ p:Nat,b=.string (Cd.str (bs++List.replicate p false))/\Hid (p+n=(8 - bs.length % 8) % 8)/\wr=wx)
   case atStart=>exact ⟨0,rfl,by show _=_;omega,rfl⟩
   case round =>
    obtain ⟨p,rfl,Hp,rfl⟩:=hrel;have Hsz:Hid ((Cd.str (bs++List.replicate p false)).size=bs.length+p):=by show _=_;rw [Cd.Zaa];simp
    have HE:Hid (Cd.str (bs++List.replicate p false)++⟨#[48]⟩=Cd.str (bs++List.replicate (p+1) false)):=by
     show _=_;have:(⟨#[48]⟩:ByteArray)=Cd.str [false]:=rfl;rw [this,Cd.ZdW,List.append_assoc,List.replicate_succ']
    have hsz:(Cd.str (bs++List.replicate p false)).size<=30730:=by have:=Hsz.out;have:=Hp.out;omega
    by_cases hn:gk=0
    ·have HB8:Hid (∃ m,(Cd.str (bs++List.replicate p false)).size=8*m/\m=(bs.length+7) / 8):=by
      have h1:=Hsz.out;have h2:=Hp.out;show ∃ m,_;exact ⟨(bs.length+7) / 8,by omega,rfl⟩
     have hm:((Cd.str (bs++List.replicate p false)).size:Int).tmod 8=0:=by
      obtain ⟨m,h1,_⟩:=HB8.out;rw [h1,Int.tmod_eq_emod_of_nonneg (by omega)];omega
     have hm2:((Cd.str (bs++List.replicate p false)).size:Int) % 8=0:=by
      obtain ⟨m,h1,_⟩:=HB8.out;rw [h1];omega
     have HAt:Hid (∀ q (h:q<(Cd.str (bs++List.replicate p false)).size),((Cd.str (bs++List.replicate p false))[q]).toNat=48+Cd.bq bs q):=fun q h=>by rw [Cd.Ztt _ q h,Cd.Zud]
     generalize Cd.str (bs++List.replicate p false)=sP at *;clear HE Hp;obtain ⟨m,Hm1,Hm2⟩:∃ m,Hid (sP.size=8*m)/\Hid (m=(bs.length+7) / 8):=by obtain ⟨m,h1,h2⟩:=HB8.out;exact ⟨m,h1,h2⟩
     have hmb:m<=4000:=by have:=Hm2.out;have:=HBL.out;omega
     clear HB8 Hsz hn;go_wp2_with fail
     go_loopw [10,11] (fun o i wx=>∃ (j:Nat) (I:Int),j<=m/\i=.int .i64 I/\Hid (I=8*(j:Int))/\0<=I/\I<=32000/\o=.string ⟨((Cd.pk bs).take j).toArray⟩/\Below w.heap.size w wx) (fun _ i _=>40000 - (intOf i).toNat)
     case atStart=>exact ⟨0,0,by omega,rfl,rfl,by omega,by omega,by simp,B3⟩
     case round =>
      clear B3;obtain ⟨j,I,hj,rfl,HI,hI0,hI1,rfl,B3⟩:=hrel;by_cases hjm:j<m
      ·have dI:decide (I<(sP.size:Int))=true:=by have:=HI.out;have:=Hm1.out;simp;omega
       have Hj8:Hid (8*j+8<=sP.size):=by have:=Hm1.out;show _<=_;omega
       have HI8:Hid (I=((8*j:Nat):Int)):=by have:=HI.out;show _=_;omega
       go_wp2_with fail
       go_loop [12,13] (fun a b=>∃ (r q:Nat),r<=8/\Hid (q=8*j+r)/\q<=33000/\b=.int .i64 (q:Nat)/\a=.int .i64 (Cd.vb bs (8*j) r:Nat)) (fun _ b=>40000 - (intOf b).toNat)
       case atStart=>exact ⟨0,8*j,by omega,rfl,by omega,by rw [HI8.out],rfl⟩
       case round =>
        obtain ⟨r,q,hr,Hq,hqb,rfl,rfl⟩:=hrel;have hv:=Cd.Zus bs (8*j) hr;by_cases hr8:r<8
        ·have dq:decide ((q:Int)<I+8)=true:=by have:=Hq.out;have:=HI8.out;simp;omega
         have hqs:q<sP.size:=by have:=Hq.out;have:=Hj8.out;omega
         have hqs2:(q:Int)<(sP.size:Int):=by omega
         obtain ⟨y,hy⟩:∃ y:Int,(sP[q].toNat:Int)=y:=⟨_,rfl⟩
         have hyb:y=48+(Cd.bq bs q:Nat):=by rw [<-hy,HAt.out q hqs];omega
         have hbq:=Cd.ZaE bs q;have hy0:48<=y:=by omega
         have hy1:y<=49:=by omega
         have HV:Hid ((Cd.vb bs (8*j) (r+1):Nat)=2*((Cd.vb bs (8*j) r:Nat):Int)+(y - 48)):=by
          show _=_;rw [Cd.vb,hyb,<-Hq.out];omega
         generalize Cd.vb bs (8*j) r=v at *;clear hyb hbq;have Hq1:Hid (q+1=8*j+(r+1)/\q+1<=33000):=by have:=Hq.out;have:=HI8.out;show _/\_;omega
         go_wp2_with fail
         exact ⟨⟨r+1,q+1,by omega,Hq1.out.1,Hq1.out.2,by go_num,by rw [HV.out]⟩,by simp [intOf];omega⟩
        ·obtain rfl:r=8:=by omega
         have dq:decide ((q:Int)<I+8)=false:=by have:=Hq.out;have:=HI8.out;simp;omega
         have HT:Hid (((Cd.pk bs).take (j+1))=(Cd.pk bs).take j++[UInt8.ofNat ((Cd.vb bs (8*j) 8:Nat):Int).toNat]):=by
          show _=_;rw [Cd.ZsJ bs (by have:=Hm2.out;omega),Cd.ZtF,Int.toNat_natCast]
         have hcv:=Zba ((Cd.vb bs (8*j) 8:Nat):Int) (by omega) (by omega)
         have hsz2:(⟨((Cd.pk bs).take j).toArray⟩:ByteArray).size<=4000:=by
          show ((Cd.pk bs).take j).toArray.size<=_;simp;omega
         have HE2:Hid ((⟨((Cd.pk bs).take j).toArray⟩:ByteArray)++⟨#[UInt8.ofNat ((Cd.vb bs (8*j) 8:Nat):Int).toNat]⟩=⟨((Cd.pk bs).take (j+1)).toArray⟩):=by
          show _=_;rw [HT.out];exact Nm.ZiU _ _
         generalize Cd.vb bs (8*j) 8=v at *;generalize (⟨((Cd.pk bs).take j).toArray⟩:ByteArray)=o at *;clear HT;have HI2:Hid (I+8=8*((j+1:Nat):Int)/\I+8<=32000):=by have:=HI8.out;show _/\_;omega
         go_wp2_with fail
         exact ⟨⟨j+1,I+8,by omega,rfl,HI2.out.1,by omega,HI2.out.2,by rw [<-HE2.out];rfl,B3.alloc B3.size _⟩,by simp [intOf];omega⟩
      ·obtain rfl:j=m:=by omega
       have dI:decide (I<(sP.size:Int))=false:=by have:=HI.out;have:=Hm1.out;simp;omega
       have hE:(Cd.pk bs).take j=Cd.pk bs:=List.take_of_length_le (by rw [Cd.ZbY];have:=Hm2.out;omega);rw [hE];clear hE;go_wp2_with fail
       go_ret2
       exact ⟨rfl,B3⟩
    ·obtain ⟨n,rfl⟩:∃ x,gk=x+1:=⟨gk - 1,by omega⟩
     obtain ⟨r,Hr8,hr1,hr2⟩:∃ r:Nat,Hid (r=(bs.length+p) % 8)/\r ≠ 0/\r<8:=⟨(bs.length+p) % 8,rfl,by have:=Hp.out;omega,by omega⟩
     have hm:((Cd.str (bs++List.replicate p false)).size:Int).tmod 8=(r:Int):=by rw [Hsz.out,Int.tmod_eq_emod_of_nonneg (by omega),Hr8.out];omega
     have hm2:((Cd.str (bs++List.replicate p false)).size:Int) % 8=(r:Int):=by rw [Hsz.out,Hr8.out];omega
     have dr:((r:Int) != 0)=true:=by simp;omega
     have sb:¬ 9223372036854775807<(Cd.str (bs++List.replicate p false)).size+1:=by omega
     generalize Cd.str (bs++List.replicate p false)=sP at *;clear hr1 hr2 Hsz;go_wp2_with fail
     go_roundg n
     case measure=>omega
     case rel=>exact ⟨p+1,by rw [HE.out],by have:=Hp.out;show _=_;omega,rfl⟩
theorem ZcP (f:Nat->Int) (s:ByteArray) (w:World) (hs0:s.size<=140737488355328) :
 Calls Tryz.prog 136 #[.agg (arr f),.string s] w fun e w'=>e=.returned (.tuple #[.string (Cd.wrt f s).1,.int .i64 (Cd.wrt f s).2])/\Below w.heap.size w w':=by
 by_cases h0:Cd.chk f=0
 ·by_cases hs:s.size<=1024
  ·exact Zgz f s w h0 hs
  ·have h9:Cd.wrt f s=(⟨#[]⟩,2):=by rw [Cd.wrt,if_neg (fun h=>h h0),if_pos (by omega)]
   rw [h9];have hck:=fun w=>Zan f w
   rw [h0] at hck;have hin:=Zb f;have hs':1024<(s.size:Int):=by omega
   have ds:decide (1024<(s.size:Int))=true:=by simp;omega
   have R1:=RowAt.new w f;have HB:Below w.heap.size w (w.alloc (.cells (arr f) 127)):=(bR _ _).alloc (nl _) _;clear h9 hs h0;go_enter Tryz.func136,Tryz.ntmps136
   go_wp2_with (refine wpList_load_row rfl 127 _ rfl w.heap.size rfl 127 (arr f) (0,0) _ R1.2 U127 rfl hin ?_)
   refine (hck _).mono ?_;rintro e w1 ⟨rfl,G1⟩;have B1:=bch HB G1 (nl _);clear R1 HB G1 hck;go_wp2_with fail
   go_ret2
   exact ⟨rfl,B1⟩
 ·have h9:Cd.wrt f s=(⟨#[]⟩,Cd.chk f):=by rw [Cd.wrt,if_pos h0]
  rw [h9];have hck:=fun w=>Zan f w
  have hin:=Zb f;have R1:=RowAt.new w f;have HB:Below w.heap.size w (w.alloc (.cells (arr f) 127)):=(bR _ _).alloc (nl _) _;generalize Cd.chk f=E at *;have d0:(E != 0)=true:=by simpa using h0
  clear h9 h0;go_enter Tryz.func136,Tryz.ntmps136
  go_wp2_with (refine wpList_load_row rfl 127 _ rfl w.heap.size rfl 127 (arr f) (0,0) _ R1.2 U127 rfl hin ?_)
  refine (hck _).mono ?_;rintro e w1 ⟨rfl,G1⟩;have B1:=bch HB G1 (nl _);clear R1 HB G1 hck;go_wp2_with fail
  go_ret2
  exact ⟨rfl,B1⟩
namespace Cd
def rem (b:ByteArray) (a:Nat):List Bool:=(List.range (8*b.size - a)).map fun j=>decide (ZH b (a+j)=1)
theorem Zcd (b:ByteArray) (a:Nat):(rem b a).length=8*b.size - a:=by simp [rem]
theorem ZqV (b:ByteArray) (a j:Nat) (h:j<8*b.size - a):bq (rem b a) j=ZH b (a+j):=by
 have h1:=ZdC b (a+j);simp only [bq,rem,List.getD_eq_getElem?_getD,List.getElem?_map,List.getElem?_range h,Option.map_some,Option.getD_some,bv];by_cases e:ZH b (a+j)=1
 ·simp [e]
 ·have:ZH b (a+j)=0:=by omega
  simp [this]
theorem ZoY (b:ByteArray) (a d:Nat):(rem b a).drop d=rem b (a+d):=by
 apply List.ext_getElem?;intro i;rw [List.getElem?_drop];unfold rem;rw [List.getElem?_map,List.getElem?_map];by_cases h:i<8*b.size - (a+d)
 ·rw [List.getElem?_range (by omega),List.getElem?_range h];simp only [Option.map_some,Nat.add_assoc]
 ·rw [List.getElem?_eq_none (by simp;omega),List.getElem?_eq_none (by simp;omega)];rfl
theorem Zqd {xs ys:List Bool} (hl:xs.length=ys.length) (h:∀ j,j<xs.length->bq xs j=bq ys j):xs=ys:=by
 apply List.ext_getElem hl;intro i h1 h2;have h3:=h i h1;simp only [bq,List.getD_eq_getElem?_getD,List.getElem?_eq_getElem h1,List.getElem?_eq_getElem h2,Option.getD_some] at h3
 revert h3
 cases xs[i] <;> cases ys[i] <;> simp [bv]
theorem Znw {xs:List Bool} {n j:Nat} (h:j<n):bq (xs.take n) j=bq xs j:=by
 simp [bq,List.getD_eq_getElem?_getD,h]
def cnd (f:Nat->Int) (bs:List Bool) (i:Nat):Prop:=0<f i/\(f i).toNat<=bs.length/\bs.take (f i).toNat=cw f i
instance (f:Nat->Int) (bs:List Bool) (i:Nat):Decidable (cnd f bs i):=inferInstanceAs (Decidable (_/\_/\_))
theorem Ziy {f:Nat->Int} (h:chk f=0) {b:ByteArray} {a i:Nat} (ha:a<=8*b.size) (hi:i<16):cnd f (rem b a) i ↔ s15 f b a=((i:Int),a+(f i).toNat):=by
 obtain ⟨h1,_,_⟩:=Ze h;have h2:=h1 i hi;constructor
 ·rintro ⟨c1,c2,c3⟩
  obtain ⟨N,hN⟩:∃ N:Nat,f i=(N:Int):=⟨(f i).toNat,by omega⟩
  rw [hN,Int.toNat_natCast] at c2 c3 |-
  rw [Zcd] at c2;have hlt:=Zqz h hi hN (by omega) (by omega);have h9:=Znm f i;refine Zhq hi hN (fun j hj e1 e2=>?_) (fun n hn1 hn j hj e1=>ZjR hi hN (by omega) (by omega) n hn1 hn j hj e1) N 15 1 0 _ (by omega) (by omega) (by omega) (by omega) (by omega) (Int.ediv_eq_zero_of_lt h9.1 hlt) (fun j hj=>?_)
  ·exact ZnF (n:=N - 1) hj hi (by omega) (by omega) (by omega) e2
  ·rw [<-ZqV b a j (by omega),<-Znw hj,c3,cw,hN];exact ZoO _ hj
 ·intro hs;have hne:(s15 f b a).1 ≠ -1:=by rw [hs];simp only;omega
  obtain ⟨s,d,e,hs2,hf,hd,hm,hz,hw,hj⟩:=Zdz (f:=f) (ws:=wds f) (b:=b) 15 1 0 a (nl _) hne;have e2:((s:Int),a+d)=((i:Int),a+(f i).toNat):=e.symm.trans hs;simp only [Prod.mk.injEq] at e2;obtain rfl:s=i:=by omega
  have hfd:f s=(d:Int):=by omega
  refine ⟨by omega,by rw [Zcd,hfd,Int.toNat_natCast];omega,?_⟩;rw [hfd,Int.toNat_natCast];have hlen:(cw f s).length=d:=by rw [cw,Zdq,hfd,Int.toNat_natCast]
  refine Zqd (by rw [List.length_take,Zcd,hlen];omega) (fun j hjl=>?_);have hjd:j<d:=by rw [List.length_take] at hjl;omega
  rw [Znw hjd,ZqV b a j (by omega)];have h3:=hj j hjd;rw [<-ZoO (wds f s) hjd] at h3;rw [cw,hfd,Int.toNat_natCast];omega
def frK (f:Nat->Int) (bs:List Bool):Nat->Int
 | 0=>-1
 | k+1=>if frK f bs k ≠ -1 then frK f bs k else if cnd f bs k then (k:Int) else -1
theorem ZqL {f:Nat->Int} {bs:List Bool} {k:Nat} (h:frK f bs k=-1) (h1:¬ cnd f bs k):frK f bs (k+1)=-1:=by rw [frK,if_neg (by omega),if_neg h1]
theorem Zno {f:Nat->Int} {bs:List Bool} {k:Nat} (h:frK f bs k=-1) (h1:cnd f bs k):∀ j,frK f bs (k+1+j)=(k:Int):=by
 intro j
 induction j with
 | zero=>rw [Nat.add_zero,frK,if_neg (by omega),if_pos h1]
 | succ j ih=>rw [<-Nat.add_assoc,frK,ih,if_pos (by omega)]
def frt (f:Nat->Int) (bs:List Bool):Int:=frK f bs 16
theorem Zmt {f:Nat->Int} {bs:List Bool}:∀ k,(∀ i,i<k->¬ cnd f bs i)->frK f bs k=-1:=by
 intro k
 induction k with
 | zero=>intro _;rfl
 | succ k ih=>intro h;exact ZqL (ih (fun i hi=>h i (by omega))) (h k (by omega))
theorem Zte {f:Nat->Int} (h:chk f=0) {b:ByteArray} {a:Nat} (ha:a<=8*b.size):frt f (rem b a)=(s15 f b a).1/\((s15 f b a).1 ≠ -1->(s15 f b a).2=a+(f (s15 f b a).1.toNat).toNat):=by
 by_cases hne:(s15 f b a).1=-1
 ·refine ⟨?_,fun h9=>absurd hne h9⟩;rw [hne];refine Zmt 16 (fun i hi hc=>?_);have:=(Ziy h ha hi).1 hc;rw [this] at hne;simp only at hne;omega
 ·obtain ⟨s,d,e,hs2,hf,hd,_⟩:=Zdz (f:=f) (ws:=wds f) (b:=b) 15 1 0 a (nl _) hne;have e':s15 f b a=((s:Int),a+d):=e;have hfd:f s=(d:Int):=by omega
  have hc:cnd f (rem b a) s:=(Ziy h ha hs2).2 (by rw [e',hfd,Int.toNat_natCast]);rw [e'];simp only [Int.toNat_natCast];refine ⟨?_,fun _=>by rw [hfd,Int.toNat_natCast]⟩
  have h1:=Zmt (f:=f) (bs:=rem b a) s (fun i hi hci=>by
   have:=(Ziy h ha (by omega)).1 hci;rw [e'] at this;simp only [Prod.mk.injEq] at this
   omega)
  have h2:=Zno h1 hc (15 - s);rw [show s+1+(15 - s)=16 by omega] at h2;exact h2
theorem Zrs {a b:Bool} (h:chr a=chr b):a=b:=by revert h;cases a <;> cases b <;> simp [chr]
theorem ZsN {xs ys:List Bool} (h:str xs=str ys):xs=ys:=by
 have h1:xs.map chr=ys.map chr:=by
  have:=congrArg (fun s=>s.data.toList) h;simpa [str] using this
 apply List.ext_getElem
 ·have:=congrArg List.length h1;simpa using this
 ·intro i h2 h3;have h4:(xs.map chr)[i]?=(ys.map chr)[i]?:=by rw [h1]
  simp only [List.getElem?_map,List.getElem?_eq_getElem h2,List.getElem?_eq_getElem h3,Option.map_some,Option.some.injEq] at h4;exact Zrs h4
theorem Zij (bs:List Bool) (n:Nat):(str bs).extract 0 n=str (bs.take n):=by
 apply ByteArray.ext;simp [str,ByteArray.data_extract,List.map_take]
theorem ZgH (bs:List Bool) (n:Nat):(str bs).extract n (str bs).size=str (bs.drop n):=by
 apply ByteArray.ext;rw [Zaa];simp [str,ByteArray.data_extract,List.map_drop,List.take_of_length_le]
def pre (b:ByteArray) (k:Nat):List Bool:=(List.range (8*k)).map fun j=>decide (ZH b j=1)
theorem ZrA (b:ByteArray) (k:Nat):(pre b k).length=8*k:=by simp [pre]
theorem Zpp (b:ByteArray) (k:Nat):pre b (k+1)=pre b k++wb (at8 b k) 8:=by
 unfold pre;rw [show 8*(k+1)=8*k+8 by omega,List.range_add,List.map_append,List.map_map]
 congr 1
 have h:∀ r,r<8->decide (ZH b (8*k+r)=1)=decide (((at8 b k:Nat):Int) / 2 ^ (7 - r) % 2=1):=fun r hr=>by
  rw [ZaH b k r hr];have e:(((at8 b k:Nat):Int) / 2 ^ (7 - r) % 2)=((at8 b k / 2 ^ (7 - r) % 2:Nat):Int):=by push_cast;rfl
  rw [e];generalize at8 b k / 2 ^ (7 - r) % 2=y;by_cases hy:y=1
  ·simp [hy]
  ·have:¬ (y:Int)=1:=by omega
   simp [hy,this]
 simp only [wb,List.range_succ,List.range_zero,List.map_cons,List.map_nil,List.nil_append,Function.comp,List.cons_append];rw [h 0 (by omega),h 1 (by omega),h 2 (by omega),h 3 (by omega),h 4 (by omega),h 5 (by omega),h 6 (by omega),h 7 (by omega)]
theorem Zsk (b:ByteArray):pre b b.size=rem b 0:=by simp [pre,rem]
theorem ZsC {f:Nat->Int} {b:ByteArray} {n:Int} (hc:chk f=0) (hn:¬ (n<0\/1024<n)) (h:4*n<(b.size:Int)):rd f b n=(⟨#[]⟩,1):=by
 cases hq:rdK f b n.toNat with
 | none=>exact ZaS hc hn hq
 | some x =>
  obtain ⟨o,a⟩:=x;rw [Zbl hc hn hq];by_cases he:end_ b a=true
  ·exfalso
   obtain ⟨bs,l1,l2,l3,e1,e2⟩:=ZfJ _ o a hq;have h1:=ZdT (Ze hc).1 _ bs e1;rw [end_,Bool.and_eq_true,decide_eq_true_eq] at he;omega
  ·rw [if_neg he]
theorem ZpT {f:Nat->Int} {b:ByteArray} {n:Int} {o:List UInt8} {a:Nat} (hc:chk f=0) (hn:¬ (n<0\/1024<n)) (hq:rdK f b n.toNat=some (o,a)):(wrt f ⟨o.toArray⟩).2=0/\o.length=n.toNat/\rd f b n=if (wrt f ⟨o.toArray⟩).1=b then (⟨o.toArray⟩,0) else (⟨#[]⟩,1):=by
 obtain ⟨bs,l1,l2,l3,e1,e2⟩:=ZfJ _ o a hq
 have hso:(⟨o.toArray⟩:ByteArray).size=n.toNat:=by
  show o.toArray.size=_;simp [l1]
 have hw:wrt f ⟨o.toArray⟩=(⟨(pk bs).toArray⟩,0):=by
  rw [wrt,if_neg (fun h=>h hc),if_neg (by omega),hso,e1]
 rw [hw];refine ⟨rfl,l1,?_⟩;rw [Zbl hc hn hq];by_cases he:end_ b a=true
 ·rw [if_pos he,if_pos (ZjP l2 e2 he).symm]
 ·rw [if_neg he,if_neg];intro h9;apply he;have:=ZqH bs;simp only at h9;rw [h9,l2] at this;exact this
end Cd
end Go.Proofs.YtbjbjbpgmojcbacGreat
