/- A part of the proof: what it leans on. -/
import Derived.Test.YtbjbjbpgmojcbacGreatDoorDk19
set_option maxRecDepth 8000
set_option maxHeartbeats 8000000
namespace Go.Proofs.YtbjbjbpgmojcbacGreatDoor
open Ar Bk Cd Dk Im Tk Tr Vy
open Tryz
variable{l:List UInt8}{x y:Value}{w w':World}
open Go.RowKit Go.Maps Go.WideMaps
theorem TG(xs:List ByteArray)(size:Int)(b off cap:Nat)(w:World)(hx:WV w b off xs)(hn:xs.length<=12)(hB:∀i,(VA xs i).size<=512)(h0:0<=size)(h1:size<=256) :
 CB 88 #[.slice (some ⟨b,off,none⟩) xs.length cap,.int .i64 size] w (.string (Wq xs size.toNat)):=by
 have HX:=Za λw' (h:ae w w')=>(hx.below h).2
 have HB:=Za hB;clear hB hx;have hn':(xs.length:Int)<=12:=by omega
 have hmm:=@run_makeMap prog
 obtain⟨R,hR⟩:∃R,Wq xs size.toNat=R:=⟨_,rfl⟩
 rw[hR];have HR0:Hid (gY xs size.toNat 65 ⟨#[]⟩=R):=hR;clear hR;go_enter func88,ntmps88
 go_wp2_with fail
 go_loopw [6] (λi wr=>∃k:Nat,k<=xs.length/\i=.int .i64 k/\VS wr w.heap.size (512*k) (λq=>iJ xs q k)/\ae w wr) (λi _=>xs.length-(intOf i).toNat)
 case atStart=>exact⟨0,by omega,rfl,VS.made _,(bR _ _).alloc (nl _) _⟩
 case round =>
  obtain⟨k,hk2,rfl,hC,B1⟩:=hrel;by_cases hlt:k<xs.length
  ·have d1:=al (by omega:(k:Int)<(xs.length:Int));have d1':=al (by omega:k<xs.length);have hki:(k:Int)<(xs.length:Int):=by omega
   have gj:=HB.out k
   obtain⟨X,hX⟩:∃X,VA xs k=X:=⟨_,rfl⟩
   rw[hX]at gj;have gJ:=Za hX;clear hX;have hwb:w.heap.size<wr.heap.size:=by obtain⟨D,h,_⟩:=hC;exact h.lt
   have hC0:=hC.below ((bR wr.heap.size wr).alloc (nl _) (.map #[] 0));have B0:=B1.alloc B1.size (.map #[] 0);clear hC B1;go_wp2_with fail
   have HS:Hid (∀w',ae w w'->w'.cell? ⟨b,off+k,none⟩=some (.string X)):=λw' h=>by rw[<-gJ.out];exact HX.out w' h k hlt
   have hsm:=VS.made wr;generalize wr.heap.size=sb at*;go_loopw [8] (λi wr2=>∃j:Nat,j<=X.size-3/\i=.int .i64 j/\VS wr2 w.heap.size (512*k+j) (Xq xs k j)/\VS wr2 sb j (λq=>Yl X q j)/\ae w wr2) (λi _=>X.size-3-(intOf i).toNat)
   case atStart=>exact⟨0,by omega,rfl,hC0.same (by omega) (λq _=>(aaz xs k q).symm),hsm,B0⟩
   case round =>
    clear hC0 hsm B0;obtain⟨j,hj2,rfl,hC,hS,B1⟩:=hrel;have c1:=HS.out _ B1;by_cases hjl:j<X.size-3
    ·have e1:decide ((j:Int)+4<=(X.size:Int))=true:=al (by omega);have hji:(j:Int)+4<=(X.size:Int):=by omega
     have hjn:j+4<=X.size:=by omega
     have vq:(j:Int)<=512:=by omega
     obtain⟨P,hP⟩:∃P,X.extract j (j+4)=P:=⟨_,rfl⟩
     have HP:Hid (Y3 X j=P):=hP;have gu:Hid (P.size=4):=by show _=_;rw[<-HP.out];exact qW hjl
     have hkey:keyOf prog 9 (.string (X.extract j (j+4)))=some (Tr.kl P):=by rw[hP];exact keyOf_string_mk U9 (by rw[gu.out];decide)
     clear hP;have HZ:=Iq (t:=X) gu.out (j:=j) (by omega);have hsl:=Ip X P j;have hsl2:Hid (Yl X P (j+1)=Yl X P j+1):=by have:=Tr.TC X j;rw[HP.out]at this;exact this
     have tV:=Za λ(q:ByteArray) (_:q.size=4) (hne:q≠P)=>TD (by rw[HP.out];exact hne)
     obtain⟨E,hS0,hE2,Bh,It⟩:=hS;have nc:=VS.pw Bh P gu.out
     obtain⟨N,hN⟩:∃N,Yl X P j=N:=⟨_,rfl⟩
     simp only[hN]at nc;rw[hN]at HZ hsl;have HN:=Za hN;have hNi:(N:Int)<=512:=by omega
     have wf1:(Lit.int .i64 ((N:Int)+1)).wf=true:=WalkArith.wf_i64 (by omega);clear hN hsl;by_cases hz:N=0
     ·subst hz;have hst:=HZ.1 rfl
      have kN:Hid (Xq xs k (j+1) P=Xq xs k j P+1):=by
       have:=EY (xs:=xs) (k:=k) (i:=j) (by rw[gJ.out];exact hjl) (by rw[gJ.out,HP.out];exact hst);rw[gJ.out,HP.out]at this;exact this
      have HO:=Za λ(q:ByteArray) (hq:q.size=4) (hne:q≠P)=>zu hq (by rw[gJ.out,HP.out];exact hne)
      obtain⟨D,hown,hD2,hD3,hD4⟩:=hC;have fX:=VS.pw hD3 P gu.out;have hcl:=EZ xs k j P
      obtain⟨C,Bi⟩:∃C,Xq xs k j P=C:=⟨_,rfl⟩
      rw[Bi]at fX hcl;have TH:=Za Bi;have TI:(C:Int)<=13:=by omega
      have wf2:(Lit.int .i64 ((C:Int)+1)).wf=true:=WalkArith.wf_i64 (by omega);clear Bi hcl hst HZ
      go_wp2_with (first
       |(at_lookup;refine wpList_lookup_own_int _ rfl _ _ 151 rfl 9 3 .i64 keyS cI fw (iE _) sb j _ rfl hS1 _ _ rfl hkey ?_;intro c hat hwc;obtain rfl:=nc c hat;clear hat hwc)
       |(at_lookup;refine wpList_lookup_own_int _ rfl _ _ 151 rfl 9 3 .i64 keyS cI fw (iE _) sb j _ rfl hS0 _ _ rfl hkey ?_;intro c hat hwc;obtain rfl:=nc c hat;clear hat hwc)
       |(at_lookup;refine wpList_lookup_own_int _ rfl _ _ 151 rfl 9 3 .i64 keyS cI fw (iE _) w.heap.size (512*k+j) _ rfl hown _ _ rfl hkey ?_;intro c hat hwc;obtain rfl:=fX c hat;clear hat hwc)
       |(at_mapUpdate;refine wpList_mapUpdate_own _ rfl _ _ _ 151 rfl 9 3 keyS cI _ w.heap.size (512*k+j) _ rfl hown (by unfold maxLen;omega) _ _ _ rfl rfl hkey _ [] (plainElem_int fw wf2) ?_;intro w1 hown1 hgrow1;have hS1:=hS0.kept hgrow1 (by simp;omega);clear hS0)
       |(at_mapUpdate;refine wpList_mapUpdate_own _ rfl _ _ _ 151 rfl 9 3 keyS cI _ sb j _ rfl hS1 (by unfold maxLen;omega) _ _ _ rfl rfl hkey _ [] (plainElem_int fw wf1) ?_;intro w2 hS2 hgrow2;have hown2:=hown1.kept hgrow2 (by simp;omega);clear hown1 hS1)
       |fail)
      have hC2:VS w2 w.heap.size (512*k+(j+1)) (Xq xs k (j+1)):=VS.put gu.out hD2 hD3 hD4 (by rw[kN.out,TH.out];exact hown2) kN.out HO.out;have px:=VS.put gu.out hE2 Bh It (by show w2.ownsMap _ _ _ _ _ (E.put _ (Y5 ((Yl X P (j+1):Nat):Int)));rw[hsl2.out,HN.out];exact hS2) hsl2.out tV.out;have B2:=(B1.grown hgrow1 B1.size (λj hj=>by cases hj;exact nl _)).grown hgrow2 (by have:=hgrow1.size;have:=B1.size;omega) (λj hj=>by cases hj;omega);clear hown2 hS2 hgrow1 hgrow2 B1 hown;go_roundw
      case rel=>exact⟨j+1,by omega,by go_num,hC2,px,B2⟩
      case measure=>simp[intOf];omega
     ·have hst:dM P X j=true:=by
       cases h9:dM P X j with
       |true=>rfl
       |false=>exact absurd (HZ.2 h9) hz
      have kN:=Za λ(q:ByteArray) (hq:q.size=4)=>(EX (by rw[gJ.out,HP.out];exact hst) hq).symm
      have hz':¬(N:Int)=0:=by omega
      have e2:=dF hz';have e3:((N:Int)==0)=false:=by simpa using hz'
      clear hst HZ
      go_wp2_with (first
       |(at_lookup;refine wpList_lookup_own_int _ rfl _ _ 151 rfl 9 3 .i64 keyS cI fw (iE _) sb j _ rfl hS0 _ _ rfl hkey ?_;intro c hat hwc;obtain rfl:=nc c hat;clear hat hwc)
       |(at_mapUpdate;refine wpList_mapUpdate_own _ rfl _ _ _ 151 rfl 9 3 keyS cI _ sb j _ rfl hS0 (by unfold maxLen;omega) _ _ _ rfl rfl hkey _ [] (plainElem_int fw wf1) ?_;intro w2 hS2 hgrow2)
       |fail)
      have hC2:VS w2 w.heap.size (512*k+(j+1)) (Xq xs k (j+1)):=(hC.kept' hgrow2 (by simp;omega)).same (by omega) kN.out;have px:=VS.put gu.out hE2 Bh It (by show w2.ownsMap _ _ _ _ _ (E.put _ (Y5 ((Yl X P (j+1):Nat):Int)));rw[hsl2.out,HN.out];exact hS2) hsl2.out tV.out;have B2:=B1.grown hgrow2 B1.size (λj hj=>by cases hj;omega);clear hS0 hS2 hgrow2 B1 hC;go_roundw
      case rel=>exact⟨j+1,by omega,by go_num,hC2,px,B2⟩
      case measure=>simp[intOf];omega
    ·have e1:decide ((j:Int)+4<=(X.size:Int))=false:=dF (by omega);have vq:(j:Int)<=512:=by omega
     have hC2:VS wr w.heap.size (512*(k+1)) (λq=>iJ xs q (k+1)):=hC.same (by omega) (λq hq=>EW hq (by rw[gJ.out];omega));clear hC hS;go_wp2_with fail
     go_roundw
     case rel=>exact⟨k+1,by omega,by go_num,hC2,B1⟩
     case measure=>simp[intOf];omega
  ·obtain rfl:k=xs.length:=by omega
   have d1:decide ((xs.length:Int)<(xs.length:Int))=false:=by simp
   have hC0:VS wr w.heap.size 6144 (Tr.ct xs):=hC.same (by omega) (λ_ _=>rfl);clear hC hmm hlt hk2;go_wp2_with fail
   go_loopw [10] (λdv wr=>∃(d:ByteArray) (f:Nat),dv=.string d/\Hid (gY xs size.toNat f d=R)/\Hid (4*f+d.size=260)/\d.size<=256/\VS wr w.heap.size 6144 (Tr.ct xs)/\ae w wr) (λdv _=>300-aa4 dv)
   case atStart=>exact⟨⟨#[]⟩,65,rfl,HR0,rfl,by decide,hC0,B1⟩
   case round =>
    clear hC0 B1 HR0;obtain⟨d,f,rfl,b6,Hf,hd,hC0,B1⟩:=hrel;by_cases hfit:(d.size:Int)+4<=size
    ·have e1:=al hfit;go_wp2_with fail
     go_loopw [11,12,13] (λbv cv iv wr2=>∃(B:ByteArray) (C k:Nat),k<=xs.length/\iv=.int .i64 k/\bv=.string B/\cv=.int .i64 C/\Hid (pI xs d k=(B,C))/\B.size<=4/\C<=100/\VS wr2 w.heap.size 6144 (Tr.ct xs)/\ae w wr2) (λ_ _ iv _=>xs.length-(intOf iv).toNat)
     case atStart=>exact⟨⟨#[]⟩,1,0,by omega,rfl,rfl,rfl,rfl,by decide,by omega,hC0,B1⟩
     case round =>
      clear hC0 B1;obtain⟨B0,C0,k,hk2,rfl,rfl,rfl,HT,hB0,Bj,hC0,B1⟩:=hrel;by_cases hlt:k<xs.length
      ·have d1:=al (by omega:(k:Int)<(xs.length:Int));have d1':=al (by omega:k<xs.length);have hki:(k:Int)<(xs.length:Int):=by omega
       have gj:=HB.out k
       obtain⟨X,hX⟩:∃X,VA xs k=X:=⟨_,rfl⟩
       rw[hX]at gj;have gJ:=Za hX;clear hX;have HS:Hid (∀w',ae w w'->w'.cell? ⟨b,off+k,none⟩=some (.string X)):=λw' h=>by rw[<-gJ.out];exact HX.out w' h k hlt
       go_wp2_with fail
       go_loopw [11,12,14] (λbv cv iv wr2=>∃(B:ByteArray) (C j:Nat),j<=X.size-3/\iv=.int .i64 j/\bv=.string B/\cv=.int .i64 C/\Hid (gX xs d X (B0,C0) j=(B,C))/\B.size<=4/\C<=100/\VS wr2 w.heap.size 6144 (Tr.ct xs)/\ae w wr2) (λ_ _ iv _=>X.size-3-(intOf iv).toNat)
       case atStart=>exact⟨B0,C0,0,by omega,rfl,rfl,rfl,rfl,hB0,Bj,hC0,B1⟩
       case round =>
        clear hC0 B1;obtain⟨B,C,j,hj2,rfl,rfl,rfl,HL,hB4,nX,hC0,B2⟩:=hrel;have c1:=HS.out _ B2;by_cases hjl:j<X.size-3
        ·have e2:decide ((j:Int)+4<=(X.size:Int))=true:=al (by omega);have hji:(j:Int)+4<=(X.size:Int):=by omega
         have hjn:j+4<=X.size:=by omega
         have vq:(j:Int)<=512:=by omega
         obtain⟨P,hP⟩:∃P,X.extract j (j+4)=P:=⟨_,rfl⟩
         have HP:Hid (Y3 X j=P):=hP;have gu:Hid (P.size=4):=by show _=_;rw[<-HP.out];exact qW hjl
         have hkey:keyOf prog 9 (.string (X.extract j (j+4)))=some (Tr.kl P):=by rw[hP];exact keyOf_string_mk U9 (by rw[gu.out];decide)
         have py:=Za hC0;obtain⟨D,hown,hD2,hD3,hD4⟩:=hC0;have fX:=VS.pw hD3 P gu.out;have hcl:=Y6 xs P xs.length
         change Tr.ct xs P<=_ at hcl
         have c2:∀w,CB 128 #[.string (X.extract j (j+4)),.string d] w (.bool (Tr.st P d)):=λw=>by rw[hP];exact N5 P d w (by rw[gu.out];omega) (by omega)
         obtain⟨n,hnn⟩:∃n,Tr.ct xs P=n:=⟨_,rfl⟩
         rw[hnn]at fX hcl;have cK:=Za hnn;have hni:(n:Int)<=12:=by omega
         have TI:(C:Int)<=100:=by omega
         have uQ:Hid (VI P B=Op.bytesLess (X.extract j (j+4)).toList B.toList):=by show _=_;rw[hP];rfl
         clear hnn hP hD2 hD3 hD4;by_cases hA:C<n
         ·have hA':(C:Int)<(n:Int):=by omega
          have dA:=al hA'
          cases hs:Tr.st P d with
          |false =>
           have j9:Hid (Tr.bs xs d (B,C) P=(P,n)):=by show _=_;rw[Ir (.inl (by rw[cK.out];exact hA)) hs,cK.out]
           rw[hs]at c2;clear hs
           go_wp2_with (first
            |(at_lookup;refine wpList_lookup_own_int _ rfl _ _ 151 rfl 9 3 .i64 keyS cI fw (iE _) w.heap.size 6144 _ rfl hown _ _ rfl hkey ?_;intro c hat hwc;obtain rfl:=fX c hat;clear hat hwc)
            |fail)
           refine mo (c2 _) λw2 G=>?_
           have B3:=ag B2 G;have hC2:=VS.below py.out G;go_wp2_with fail
           go_roundw
           case rel=>exact⟨P,n,j+1,by omega,by go_num,by rw[show X.extract j (j+4)=P from HP.out],rfl,by show gX _ _ _ _ (j+1)=_;rw[gX,HL.out,HP.out,j9.out],by rw[gu.out];omega,by omega,hC2,B3⟩
           case measure=>simp[intOf];omega
          |true =>
           have j9:Hid (Tr.bs xs d (B,C) P=(B,C)):=YD (.inr hs);rw[hs]at c2;clear hs
           go_wp2_with (first
            |(at_lookup;refine wpList_lookup_own_int _ rfl _ _ 151 rfl 9 3 .i64 keyS cI fw (iE _) w.heap.size 6144 _ rfl hown _ _ rfl hkey ?_;intro c hat hwc;obtain rfl:=fX c hat;clear hat hwc)
            |fail)
           refine mo (c2 _) λw2 G=>?_
           have B3:=ag B2 G;have hC2:=VS.below py.out G;go_wp2_with fail
           go_roundw
           case rel=>exact⟨B,C,j+1,by omega,by go_num,rfl,rfl,by show gX _ _ _ _ (j+1)=_;rw[gX,HL.out,HP.out,j9.out],hB4,nX,hC2,B3⟩
           case measure=>simp[intOf];omega
         ·have hA':¬(C:Int)<(n:Int):=by omega
          have dA:=dF hA';by_cases hE:n=C
          ·subst hE;by_cases h2:1<n
           ·have h2':(1:Int)<(n:Int):=by omega
            have d2:=al h2'
            cases hbl:VI P B with
            |true =>
             have Bm:=hbl;rw[uQ.out]at Bm
             cases hs:Tr.st P d with
             |false =>
              have j9:Hid (Tr.bs xs d (B,n) P=(P,n)):=by show _=_;rw[Ir (.inr ⟨cK.out,by rw[cK.out];exact h2,hbl⟩) hs,cK.out]
              rw[hs]at c2;clear hs hbl
              go_wp2_with (first
               |(at_lookup;refine wpList_lookup_own_int _ rfl _ _ 151 rfl 9 3 .i64 keyS cI fw (iE _) w.heap.size 6144 _ rfl hown _ _ rfl hkey ?_;intro c hat hwc;obtain rfl:=fX c hat;clear hat hwc)
               |fail)
              refine mo (c2 _) λw2 G=>?_
              have B3:=ag B2 G;have hC2:=VS.below py.out G;go_wp2_with fail
              go_roundw
              case rel=>exact⟨P,n,j+1,by omega,by go_num,by rw[show X.extract j (j+4)=P from HP.out],rfl,by show gX _ _ _ _ (j+1)=_;rw[gX,HL.out,HP.out,j9.out],by rw[gu.out];omega,by omega,hC2,B3⟩
              case measure=>simp[intOf];omega
             |true =>
              have j9:Hid (Tr.bs xs d (B,n) P=(B,n)):=YD (.inr hs);rw[hs]at c2;clear hs hbl
              go_wp2_with (first
               |(at_lookup;refine wpList_lookup_own_int _ rfl _ _ 151 rfl 9 3 .i64 keyS cI fw (iE _) w.heap.size 6144 _ rfl hown _ _ rfl hkey ?_;intro c hat hwc;obtain rfl:=fX c hat;clear hat hwc)
               |fail)
              refine mo (c2 _) λw2 G=>?_
              have B3:=ag B2 G;have hC2:=VS.below py.out G;go_wp2_with fail
              go_roundw
              case rel=>exact⟨B,n,j+1,by omega,by go_num,rfl,rfl,by show gX _ _ _ _ (j+1)=_;rw[gX,HL.out,HP.out,j9.out],hB4,nX,hC2,B3⟩
              case measure=>simp[intOf];omega
            |false =>
             have j9:Hid (Tr.bs xs d (B,n) P=(B,n)):=YD (.inl (by rw[cK.out,hbl];simp));rw[uQ.out]at hbl;clear c2
             go_wp2_with (first
              |(at_lookup;refine wpList_lookup_own_int _ rfl _ _ 151 rfl 9 3 .i64 keyS cI fw (iE _) w.heap.size 6144 _ rfl hown _ _ rfl hkey ?_;intro c hat hwc;obtain rfl:=fX c hat;clear hat hwc)
              |fail)
             go_roundw
             case rel=>exact⟨B,n,j+1,by omega,by go_num,rfl,rfl,by show gX _ _ _ _ (j+1)=_;rw[gX,HL.out,HP.out,j9.out],hB4,nX,py.out,B2⟩
             case measure=>simp[intOf];omega
           ·have h2':¬(1:Int)<(n:Int):=by omega
            have d2:=dF h2';have j9:Hid (Tr.bs xs d (B,n) P=(B,n)):=YD (.inl (by rw[cK.out];omega));clear c2
            go_wp2_with (first
             |(at_lookup;refine wpList_lookup_own_int _ rfl _ _ 151 rfl 9 3 .i64 keyS cI fw (iE _) w.heap.size 6144 _ rfl hown _ _ rfl hkey ?_;intro c hat hwc;obtain rfl:=fX c hat;clear hat hwc)
             |fail)
            go_roundw
            case rel=>exact⟨B,n,j+1,by omega,by go_num,rfl,rfl,by show gX _ _ _ _ (j+1)=_;rw[gX,HL.out,HP.out,j9.out],hB4,nX,py.out,B2⟩
            case measure=>simp[intOf];omega
          ·have hE':¬(n:Int)=(C:Int):=by omega
           have d2:=dF hE';have d3:((n:Int)==(C:Int))=false:=by simpa using hE'
           have j9:Hid (Tr.bs xs d (B,C) P=(B,C)):=YD (.inl (by rw[cK.out];omega));clear c2
           go_wp2_with (first
            |(at_lookup;refine wpList_lookup_own_int _ rfl _ _ 151 rfl 9 3 .i64 keyS cI fw (iE _) w.heap.size 6144 _ rfl hown _ _ rfl hkey ?_;intro c hat hwc;obtain rfl:=fX c hat;clear hat hwc)
            |fail)
           go_roundw
           case rel=>exact⟨B,C,j+1,by omega,by go_num,rfl,rfl,by show gX _ _ _ _ (j+1)=_;rw[gX,HL.out,HP.out,j9.out],hB4,nX,py.out,B2⟩
           case measure=>simp[intOf];omega
        ·have e2:decide ((j:Int)+4<=(X.size:Int))=false:=dF (by omega);have vq:(j:Int)<=512:=by omega
         have HT2:Hid (pI xs d (k+1)=(B,C)):=by
          show _=_;rw[pI,gJ.out,HT.out,show X.size-3=j by omega];exact HL.out
         go_wp2_with fail
         go_roundw
         case rel=>exact⟨B,C,k+1,by omega,by go_num,rfl,rfl,HT2,hB4,nX,hC0,B2⟩
         case measure=>simp[intOf];omega
      ·obtain rfl:k=xs.length:=by omega
       have d1:decide ((xs.length:Int)<(xs.length:Int))=false:=by simp
       have pP:Hid (Tr.best xs d=B0):=by show _=_;rw[Tr.best,HT.out]
       rcases Tr.TE xs d with hz|hz
       ·have HN:Hid (d=R):=by
         have h9:=b6.out;rw[wQ hz]at h9;exact h9
        rw[pP.out]at hz;obtain rfl:=TF hz;clear hz;go_wp2_with fail
        go_ret
        exact⟨by rw[HN.out];rfl,B1⟩
       ·obtain⟨g,rfl⟩:∃g,f=g+1:=⟨f-1,by have:=Hf.out;omega⟩
        have HN:Hid (gY xs size.toNat g (B0++d)=R):=by
         have h9:=b6.out;rw[BQ (by omega) hz,pP.out]at h9;exact h9
        rw[pP.out]at hz;have DM:(B0++d).size=4+d.size:=by rw[ByteArray.size_append,hz]
        have hne:B0.toList.isEmpty=false:=Tr.bL (by omega);have hne2:(B0.toList == [])=false:=by rw[<-hne];cases B0.toList<;>rfl
        have hf1:Hid (4*g+(B0++d).size=260):=by have:=Hf.out;show 4*g+_=260;omega
        have hzz:=Za hz;clear hz;go_wp2_with fail
        go_roundw
        case rel=>exact⟨B0++d,g,rfl,HN,hf1,by omega,hC0,B1⟩
        case measure=>simp[aa4];have:=hzz.out;omega
    ·have e1:=dF hfit
     have HN:Hid (d=R):=by
      have h9:=b6.out;rw[BR (by omega)]at h9;exact h9
     go_wp2_with fail
     go_ret
     exact⟨by rw[HN.out];rfl,B1⟩
theorem TJ(size:Nat)(f:Nat):gY [] size f ⟨#[]⟩=⟨#[]⟩:=wQ rfl
theorem TK(size:Int)(ad:Option Addr)(cap:Nat)(w:World) :
 CB 88 #[.slice ad 0 cap,.int .i64 size] w (.string ⟨#[]⟩):=by
 have hmm:=@run_makeMap prog;go_enter func88,ntmps88
 go_wp2_with fail
 go_loopw [6] (λi wr=>i=.int .i64 0/\ae w wr) (λi _=>0)
 case atStart=>exact⟨rfl,(bR _ _).alloc (nl _) _⟩
 case round =>
  obtain⟨rfl,B1⟩:=hrel;go_wp2_with fail
  go_loopw [10] (λdv wr=>dv=.string ⟨#[]⟩/\ae w wr) (λ_ _=>0)
  case atStart=>exact⟨rfl,B1⟩
  case round =>
   clear B1;obtain⟨rfl,B1⟩:=hrel;by_cases hfit:(4:Int)<=size
   ·have e1:=al hfit;go_wp2_with fail
    go_loopw [11,12,13] (λbv cv iv wr=>iv=.int .i64 0/\bv=.string ⟨#[]⟩/\ae w wr) (λ_ _ _ _=>0)
    case atStart=>exact⟨rfl,rfl,B1⟩
    case round =>
     clear B1;obtain⟨rfl,rfl,B1⟩:=hrel;go_wp2_with fail
     go_ret
     exact⟨rfl,B1⟩
   ·have e1:=dF hfit;go_wp2_with fail
    go_ret
    exact⟨rfl,B1⟩
theorem TL(xs:List ByteArray)(size:Int)(ad:Option Addr)(cap:Nat)(w:World)(hx:bz w ad xs)(hn:xs.length<=12)(hB:∀i,(VA xs i).size<=512)(h0:0<=size)(h1:size<=256) :
 CB 88 #[.slice ad xs.length cap,.int .i64 size] w (.string (Wq xs size.toNat)):=by
 rcases hx with rfl|⟨b,off,rfl,h2⟩
 ·rw[Wq,TJ];exact TK size ad cap w
 ·exact TG xs size b off cap w h2 hn hB h0 h1
theorem TN(ad af:Option Addr)(cd cf:Nat)(a:Ar.A)(size:Int)(w:World)(h:bo w ad af a)(hs:ao a)(hE:V6 a size=0) :
 Calls prog 49 #[av ad cd af cf a,.int .i64 size] w λe w'=>ah w ⟨V9 a size,a.files.map (VU a size)⟩ 0 e w':=by
 obtain⟨hc,mQ,mR,h4⟩:=vF hE;obtain⟨i0,hi,hz0,hz1,hz2⟩:=info_parts (P:=prog) (e:=9) (z:=.string ⟨#[]⟩) (size:=1) (bytes:=16) (by kernel_rfl);obtain⟨j0,gi,ej,dX,ek⟩:=info_parts (P:=prog) (e:=73) (z:=.agg #[.string ⟨#[]⟩,.int .i64 0,.int .i64 0,.int .i64 0,.string ⟨#[]⟩]) (size:=5) (bytes:=56) (by kernel_rfl);obtain⟨m1,m2,m3⟩:=Zj.1 (VV.1 hc).1;have C1:=Za λw' (h9:ae w w')=>Zn ad af cd cf a w' (h.below h9) hs
 have C2:=Za λw'=>ZQ size 0 256 w'
 have C3:=Za λk (hk:k<a.files.length) w' (h9:ae w w')=>Gz ad af cd cf a k w' (h.below h9) hs hc hk
 have hT:=YS hc;have mS:Hid ((aY a).length=a.files.length):=by show _=_;unfold aY;rw[List.length_map]
 have C4:Hid (∀w' dO bT,bz w' dO (aY a)->CB 88 #[.slice dO a.files.length bT,.int .i64 size] w' (.string (Wq (aY a) size.toNat))):=λw' dO bT h9=>by
  have:=TL (aY a) size dO bT w' h9 hT.1 (λi=>by
   by_cases hi:i<(aY a).length
   ·have e:VA (aY a) i=(aY a)[i]:=by simp[VA,hi]
    rw[e];exact hT.2 _ (gM hi)
   ·have e:VA (aY a) i=⟨#[]⟩:=by simp[VA,hi]
    rw[e];exact Nat.zero_le _) mQ mR
  rw[mS.out]at this;exact this
 have hmr:=zZ hE;have hrl:(V9 a size).length=a.aa.length+1:=by unfold V9;rw[List.length_append];rfl
 have hrm:(V9 a size).map Value.string=a.aa.map Value.string++[.string (Wq (aY a) size.toNat)]:=by unfold V9;rw[List.map_append];rfl
 have C5:Hid (∀w' jX lU ph b7 Bn m,m<a.files.length->bz w' jX (V9 a size)->CB 85 #[.agg #[.slice jX (a.aa.length+1) lU,.slice ph Bn b7],.string (Nm a.files m).name,.string (WX a.aa (Nm a.files m)),.int .i64 ((a.aa.length:Int)+1)] w' (fv (VU a size (Nm a.files m)))):=λw' jX lU ph b7 Bn m hm hx=>by
  have hmem:Nm a.files m∈a.files:=by rw[eP hm];exact gM hm
  have:=Ik jX ph lU b7 ⟨V9 a size,List.replicate Bn Ar.fz⟩ (Nm a.files m).name (WX a.aa (Nm a.files m)) ((a.aa.length:Int)+1) w' hx (by show(V9 a size).length<=_;omega) (by show VY (V9 a size) _=true;unfold VY;rw[hrl];exact al ⟨by omega,by omega⟩) (by have:=XJ hmr ((a.aa.length:Int)+1);exact this) (YP hc hmem);unfold av at this;simp only[hrl,List.length_replicate]at this;exact this
 have HDn:=Za λw' (h9:ae w w')=>(h.ds.below h9).news
 have cy:Hid (∀k,k<a.files.length->∃b off,af=some ⟨b,off,none⟩/\b<w.heap.size/\Hid (∀w',ae w w'->w'.cell? ⟨b,off+k*5,none⟩=some (.string (Nm a.files k).name))):=λk hk=>by
  obtain⟨b,off,h1,h2,h3⟩:=h.fs.at hk;exact⟨b,off,h1,h2,λw' h9=>(h3.below h9 h2).c0⟩
 have it:Hid ((a.aa.map Value.string).length=a.aa.length*1):=by show _=_;simp
 have HD1:Hid (∀u∈a.aa.map Value.string,u.oneCell'=true):=λu hu=>by obtain⟨x,_,rfl⟩:=List.mem_map.1 hu;rfl
 have mA:=Za λk (hk:k<a.files.length)=>aaB hk
 have sG:=Za (aaC a);have Bo:Hid (∀k,k<a.files.length->(WX a.aa (Nm a.files k)).size<=512):=λk hk=>YP hc (by rw[eP hk];exact gM hk)
 have tz:Hid (∀k,k<a.files.length->VA (aY a) k=WX a.aa (Nm a.files k)):=λk hk=>by unfold aY;simp[VA,Nm,hk]
 have Bp:Hid (∀lo w' v,w'.ownsRow lo 9 1 v a.files.length ((aY a).map Value.string)->∃dO bT,v=.slice dO a.files.length bT/\bz w' dO (aY a)):=λlo w' v h9=>by
  rw[<-mS.out]at h9 |-
  obtain⟨dO,bT,h1,_,h2⟩:=qk h9;exact⟨dO,bT,h1,bE.sl h2⟩
 have Bq:Hid (∀lo w' jX lU,w'.ownsRow lo 9 1 (.slice jX (a.aa.length+1) lU) (a.aa.length+1) (a.aa.map Value.string++[.string (Wq (aY a) size.toNat)])->bz w' jX (V9 a size)):=λlo w' jX lU h9=>by
  rw[<-hrm,<-hrl]at h9;obtain⟨qE,cap2,e2,_,h5⟩:=qk h9;simp only[Value.slice.injEq]at e2;obtain⟨rfl,_,rfl⟩:=e2;exact bE.sl h5
 have iH:Hid (∀v1 v2 w',w'.ownsRow w.heap.size 9 1 v1 (a.aa.length+1) (a.aa.map Value.string++[.string (Wq (aY a) size.toNat)])->w'.ownsRow w.heap.size 73 5 v2 a.files.length (aw ((a.files.take a.files.length).map (VU a size)))->(∀j,v1.ownBlock=some j->v2.ownBlock≠some j)->ae w w'->ah w ⟨V9 a size,a.files.map (VU a size)⟩ 0 (.returned (.tuple #[.agg #[v1,v2],.int .i64 0])) w'):=λv1 v2 w' k1 k2 k3 k4=>by
  rw[List.take_length]at k2;rw[<-hrm,<-hrl]at k1;exact⟨v1,v2,rfl,⟨k1,by show w'.ownsRow _ _ _ _ (a.files.map (VU a size)).length _;rw[List.length_map];exact k2,k3⟩,k4⟩
 generalize ah w ⟨V9 a size,a.files.map (VU a size)⟩ 0=Q at*;have Br:Hid (∀k,k<a.files.length->aw ((a.files.take (k+1)).map (VU a size))=aw ((a.files.take k).map (VU a size))++[.string (VU a size (Nm a.files k)).name,.int .i64 (VU a size (Nm a.files k)).dict,.int .i64 (VU a size (Nm a.files k)).size,.int .i64 (VU a size (Nm a.files k)).sum,.string (VU a size (Nm a.files k)).blk]):=λk hk=>by rw[YL hk,List.map_append,ZE];rfl
 have mh:Hid (aw ((a.files.take 0).map (VU a size))=[]):=rfl;rw[hc]at C1;rw[decide_eq_true ⟨mQ,mR⟩]at C2;unfold av at C1 C3 |-
 unfold fv at C5;clear h hs hE hc m3 hT hmr hrl hrm;generalize Wq (aY a) size.toNat=X at*;generalize V9 a size=rd at*;generalize VU a size=rf at*
 obtain⟨D,hDD⟩:∃D,a.aa.length=D:=⟨_,rfl⟩
 obtain⟨N,hNN⟩:∃N,a.files.length=N:=⟨_,rfl⟩
 simp only[hDD,hNN]at C1 C3 C4 C5 HDn cy it mA sG Bo tz Bp Bq iH Br mS m1 m2 h4 |-
 clear hDD hNN;generalize a.aa.map Value.string=ds at*;generalize Nm a.files=fa at*;generalize WX a.aa=tx at*;have hDi:(D:Int)<=4:=by omega
 have hNi:(N:Int)<=12:=by omega
 have d4:decide ((4:Int)<=(D:Int))=false:=dF (by omega);have sr:decide (4<=D)=false:=dF (by omega);go_enter func49,ntmps49
 go_wp2_with fail
 refine mo (C1.out _ (Fr.start w _ _).b) λw1 G1=>?_
 have F1:=(Fr.start w _ _).next G1;clear G1 C1;obtain⟨b,a0,a1,r0,r1,z0,z1,hz⟩:=id F1;go_wp2_with fail
 refine mo (C2.out _) ?_;rintro w3 rfl;clear C2;go_wp2_with fail
 clear b a0 a1 r0 r1 z0 z1;go_loopw [7,8] (λl i wr=>∃(k:Nat),k<=N/\i=.int .i64 k/\wr.ownsRow w3.heap.size 9 1 l k ((Y8 a k).map Value.string)/\ae w3 wr) (λ_ i _=>N-(intOf i).toNat)
 case atStart=>exact⟨0,by omega,rfl,⟨rfl,.inl ⟨rfl,rfl⟩⟩,bR _ _⟩
 case round =>
  rename_i vl _
  obtain⟨k,hk2,rfl,hrow,B1⟩:=hrel;have F2:=F1.next B1;obtain⟨B2,a0,a1,r0,r1,z0,z1,lW⟩:=id F2;by_cases hlt:k<N
  ·have e1:decide ((k:Int)<(N:Int))=true:=al (by omega);have e1':=al hlt;have hki:(k:Int)<(N:Int):=by omega
   have c3:=C3.out k hlt wr B2;have HN:=mA.out k hlt;have zA:=Bo.out k hlt;generalize tx (fa k)=T at*;go_wp2_with fail
   refine mo c3 λw4 G=>?_
   have hrow4:=Zz hrow G;have B4:=ag B1 G;have qM:=B4.size;clear G hrow c3 a0 a1 r0 r1 z0 z1
   go_wp2_with (first
    |(at_builtin;refine wpList_append_own _ rfl _ _ 32 rfl w3.heap.size 9 i0 (.string ⟨#[]⟩) 1 16 je hi hz0 hz1 hz2 rfl (by decide) _ _ _ rfl (hrow4.alloc _) ⟨w4.heap.size,0,none⟩ 1 1 [.string T] rfl rfl (cell_one_new _ _ _) (by simp[Value.oneCell']) (by unfold maxLen at*;omega) (by omega) (by simp;omega) ?_;intro v' w5 hown' hg5 Iu;go_frame)
    |fail)
   have B5:=(B4.alloc B4.size (.cells #[.string T] 9 (0,0))).grown hg5 (by simp;omega) (λj hj=>(hrow4.lt j hj).1);go_roundw
   case rel=>exact⟨k+1,by omega,by go_num,by rw[HN,List.map_append];exact hown',B5⟩
   case measure=>simp[intOf];omega
  ·obtain rfl:k=N:=by omega
   have e1:decide ((k:Int)<(k:Int))=false:=by simp
   rw[sG.out]at hrow;obtain⟨dO,bT,rfl,htx⟩:=Bp.out _ _ _ hrow;have hzw:w.heap.size<wr.heap.size:=by omega
   have O0:=vW wr wr.heap.size 9 1 (nl _);have hD2:=HDn.out _ (B2.alloc (by have:=B2.size;omega) (.cells #[] 9 (0,0)));have fV:=it.out;have fW:=HD1.out
   go_wp2_with (first
    |(at_builtin;refine vV rfl _ _ 32 rfl wr.heap.size 9 i0 (.string ⟨#[]⟩) 1 16 je hi hz0 hz1 hz2 rfl (by decide) wr.heap.size 0 0 [] rfl O0 ad D cd ds rfl fV hD2 fW (by unfold maxLen;omega) (by omega) (by simp) _ rfl ?_;intro g cp w5 hown5 aB bc)
    |fail)
   have BX:=((bR _ _).alloc (nl _) _).grown aB (by simp) (λj hj=>by simp at hj;omega);simp only[Nat.zero_add,List.nil_append]at hown5 |-
   clear O0 hD2 fV fW aB bc HDn it HD1;refine mo (C4.out w5 dO bT (htx.below BX)) λw6 G6=>?_
   have hown6:=Zz hown5 G6;have B6:=ag BX G6;have cm:=B6.size;clear G6 hown5 BX C4 a0 a1 r0 r1 z0 z1
   go_wp2_with (first
    |(at_builtin;refine kd _ rfl _ _ 32 rfl wr.heap.size 9 i0 (.string ⟨#[]⟩) 1 16 je hi hz0 hz1 hz2 rfl (by decide) (.slice (some ⟨g,0,none⟩) D cp) D ds rfl (hown6.alloc _) ⟨w6.heap.size,0,none⟩ 1 1 [.string X] rfl rfl (cell_one_new _ _ _) (by simp[Value.oneCell']) (by decide) (by unfold maxLen;omega) (by omega) (by simp;omega) _ rfl ?_;intro g2 cp2 w7 ay a7 aU bM)
    |fail)
   have B7:=(B6.alloc B6.size (.cells #[.string X] 9 (0,0))).grown a7 (by simp;omega) (λj hj=>(hown6.lt j hj).1);have S0:=cx.new1 B7 B7.size ay;clear a7 aU bM ay hown6 B6 cm B7;generalize (w7.alloc (.cells #[.slice (some ⟨g2,0,none⟩) (D+1) cp2,.slice none 0 0] 35 (0,0)))=w8 at*;generalize w7.heap.size=C at*;generalize hw4:wr=w4 at*;clear hw4;go_loopw [10] (λi wr=>∃(m:Nat) (v2:Value),m<=k/\i=.int .i64 m/\cx w4 wr C w4.heap.size (.slice (some ⟨g2,0,none⟩) (D+1) cp2) v2 (D+1) m (ds++[.string X]) (aw ((a.files.take m).map rf))) (λi _=>k-(intOf i).toNat)
   case atStart=>exact⟨0,_,by omega,rfl,by rw[mh.out];exact S0⟩
   case round =>
    obtain⟨m,v2,hm2,rfl,S1⟩:=hrel;have F4:=F2.keep S1.bel lW;obtain⟨B4,a0,a1,r0,r1,z0,z1,qM⟩:=id F4;by_cases hlm:m<k
    ·have e2:decide ((m:Int)<(k:Int))=true:=al (by omega);have e2':=al hlm;have jQ:(m:Int)<(k:Int):=by omega
     obtain⟨b,off,rfl,hbw,oh⟩:=cy.out m hlm;have c0:=oh.out wr B4;have hbl:=nT hbw B4.size;obtain⟨bt,ot,rfl,hbt,htc⟩:=htx.at (i:=m) (by rw[mS.out];exact hlm)
     rw[tz.out m hlm]at htc;have HT2:=Za λw' (h9:ae w4 w')=>(h9.cell (p:=⟨bt,ot+m,none⟩) hbt).trans htc
     clear htc;have TO:=nT hbt S1.bel.size;have bS:=S1.c1;have Bs:=S1.c0;have bX:=S1.f1;have hbC:=S1.hb;have ic:=S1.hC;obtain⟨p2,q2,rfl,_⟩:=Zq S1.o2;have HN:=Br.out m hlm;have htd:=Bq.out _ _ _ _ S1.o1;have CP:Hid (∀w',ae wr w'->CB 85 #[.agg #[.slice (some ⟨g2,0,none⟩) (D+1) cp2,.slice p2 m q2],.string (fa m).name,.string (tx (fa m)),.int .i64 ((D:Int)+1)] w' (.agg #[.string (rf (fa m)).name,.int .i64 (rf (fa m)).dict,.int .i64 (rf (fa m)).size,.int .i64 (rf (fa m)).sum,.string (rf (fa m)).blk])):=λw' h9=>C5.out w' _ _ _ _ _ m hlm (htd.below h9)
     clear htd;generalize (rf (fa m)).name=n0 at*;generalize (rf (fa m)).dict=n1 at*;generalize (rf (fa m)).size=n2 at*;generalize (rf (fa m)).sum=n3 at*;generalize (rf (fa m)).blk=n4 at*;generalize (fa m).name=f0 at*;generalize tx (fa m)=tm at*;go_wp2_with fail
     have cj:Hid (∀w',ae w4 w'->w'.cell? ⟨C,0,none⟩=some (.slice (some ⟨g2,0,none⟩) (D+1) cp2)->(λw'=>w'.cell? ⟨w.heap.size,1,none⟩=some (.slice (some ⟨b,off,none⟩) k cf)/\w'.cell? ⟨b,off+m*5,none⟩=some (.string f0)/\w'.cell? ⟨bt,ot+m,none⟩=some (.string tm)/\w'.cell? ⟨C,0,none⟩=some (.slice (some ⟨g2,0,none⟩) (D+1) cp2)) w'):=λw' h9 h8=>⟨(F2.keep h9 lW).a1,oh.out w' (F2.keep h9 lW).b,HT2.out w' h9,h8⟩
     refine wp_region_held_drew (S:=λw'=>w'.cell? ⟨w.heap.size,1,none⟩=some (.slice (some ⟨b,off,none⟩) k cf)/\w'.cell? ⟨b,off+m*5,none⟩=some (.string f0)/\w'.cell? ⟨bt,ot+m,none⟩=some (.string tm)/\w'.cell? ⟨C,0,none⟩=some (.slice (some ⟨g2,0,none⟩) (D+1) cp2)) (by kernel_rfl) (cj.out _ S1.bel.drew Bs) (λhS=>?_);refine aE 0 20 (.pointer (some ⟨C,1,none⟩)) rfl (λw' ⟨k1,k2,k3,k4⟩=>by go_simp) hS ?_;refine aE 3 19 (.pointer (some ⟨w.heap.size,1,none⟩)) rfl (λw' ⟨k1,k2,k3,k4⟩=>by go_simp) hS ?_;refine aE 4 18 (.slice (some ⟨b,off,none⟩) k cf) rfl (λw' ⟨k1,k2,k3,k4⟩=>by go_simp) hS ?_;refine aE 5 17 (.int .i64 (m:Nat)) rfl (λw' ⟨k1,k2,k3,k4⟩=>by go_simp) hS ?_;refine aE 6 16 (.pointer (some ⟨b,off+m*5,none⟩)) rfl (λw' ⟨k1,k2,k3,k4⟩=>by go_simp) hS ?_;refine aE 7 15 (.pointer (some ⟨b,off+m*5,none⟩)) rfl (λw' ⟨k1,k2,k3,k4⟩=>by go_simp) hS ?_;refine aE 8 14 (.string f0) rfl (λw' ⟨k1,k2,k3,k4⟩=>by go_simp) hS ?_;refine aE 9 13 (.slice (some ⟨bt,ot,none⟩) k bT) rfl (λw' ⟨k1,k2,k3,k4⟩=>by go_simp) hS ?_;refine aE 10 12 (.int .i64 (m:Nat)) rfl (λw' ⟨k1,k2,k3,k4⟩=>by go_simp) hS ?_;refine aE 11 11 (.pointer (some ⟨bt,ot+m,none⟩)) rfl (λw' ⟨k1,k2,k3,k4⟩=>by go_simp) hS ?_;refine aE 12 10 (.string tm) rfl (λw' ⟨k1,k2,k3,k4⟩=>by go_simp) hS ?_;refine aE 13 9 (.pointer (some ⟨C,0,none⟩)) rfl (λw' ⟨k1,k2,k3,k4⟩=>by go_simp) hS ?_;refine aE 14 8 (.slice (some ⟨g2,0,none⟩) (D+1) cp2) rfl (λw' ⟨k1,k2,k3,k4⟩=>by go_simp) hS ?_;refine aE 15 7 (.int .i64 ((D:Int)+1)) rfl (λw' ⟨k1,k2,k3,k4⟩=>by go_simp) hS ?_;clear cy tz mA Bo C3 C5 Br Bq Bp sG mS mh iH;refine wY (rs:=[1,2]) (fuel:=6) (by kernel_rfl) (by simp) ?_;refine rC rfl (λK hK=>?_) (rC rfl (λK hK=>?_) rN)
     ·go_simp
      refine hK.out _ _ hS (λ_=>?_);clear hK;refine aR 2 5 rfl λK hK=>?_
      go_simp
      refine hK.out _ _ hS (λ_=>?_);clear hK;refine aR 16 4 rfl λK hK=>?_
      go_simp
      refine mo (CP.out _ ((bR _ _).drew)) λt8 G8=>?_
      have S2:=S1.below (Below.trans ((bR _ _).drew) G8);have jy:=S2.c1;have jz:=S2.hb
      have oi:∀o,(t8.alloc o).cell? ⟨C,1,none⟩=some (.slice p2 m q2):=(λo=>(gW _ _ _ jz).trans jy)
      have qN:=cj.out _ S2.bel S2.c0;refine hK.out _ _ qN (λ_=>?_);clear hK;refine aR 17 3 rfl λK hK=>?_
      go_simp
      have SA:=S2.below ((bR _ _).alloc (nl _) (.cells #[.string n0,.int .i64 n1,.int .i64 n2,.int .i64 n3,.string n4] 73 (0,0)));have ks:=cj.out _ SA.bel SA.c0;refine hK.out _ _ ks (λ_=>?_);clear hK;refine aR 18 2 rfl λK hK=>?_
      refine gF _ rfl _ _ 33 rfl w4.heap.size 73 j0 (.agg #[.string ⟨#[]⟩,.int .i64 0,.int .i64 0,.int .i64 0,.string ⟨#[]⟩]) 5 56 eX gi ej dX ek rfl (by decide) _ _ _ rfl (S2.o2.alloc _) ⟨t8.heap.size,0,none⟩ 1 1 [.string n0,.int .i64 n1,.int .i64 n2,.int .i64 n3,.string n4] rfl rfl (jT _ _ _ _ _ _ _) (cZ _ _ _ _ _) (by decide) (by unfold maxLen;omega) (by omega) (by simp;omega) _ rfl ?_;intro g7 ch t7 ay a7 aU bM;obtain⟨⟨q1,q2⟩,S4⟩:=S2.br a7 ay aU;have jd:=S2.mN a7;have hS7:=cj.out _ jd.2 jd.1;clear a7 ay aU bM jd;refine hK.out _ _ hS7 (λ_=>?_);clear hK;refine aR 19 1 rfl λK hK=>?_
      go_simp
      refine hK.out _ _ hS7 (λ_=>?_);clear hK;refine aR 20 0 rfl λK hK=>?_
      go_simp
      refine hK.out _ _ (cj.out _ S4.bel S4.c0) (λ_=>?_);clear hK;refine⟨by kernel_rfl,?_⟩;go_wp2_with fail
      go_roundw
      case rel=>exact⟨m+1,_,by omega,by go_num,by rw[HN];exact S4⟩
      case measure=>simp[intOf];omega
     ·go_simp
      refine hK.out _ _ hS (λ_=>?_);clear hK;refine wY (rs:=[1,16]) (fuel:=5) (by kernel_rfl) (by simp) ?_;refine rC rfl (λK hK=>?_) (rC rfl (λK hK=>?_) rN)
      ·go_simp
       refine hK.out _ _ hS (λ_=>?_);clear hK;refine aR 16 4 rfl λK hK=>?_
       go_simp
       refine mo (CP.out _ ((bR _ _).drew)) λt8 G8=>?_
       have S2:=S1.below (Below.trans ((bR _ _).drew) G8);have jy:=S2.c1;have jz:=S2.hb
       have oi:∀o,(t8.alloc o).cell? ⟨C,1,none⟩=some (.slice p2 m q2):=(λo=>(gW _ _ _ jz).trans jy)
       have qN:=cj.out _ S2.bel S2.c0;refine hK.out _ _ qN (λ_=>?_);clear hK;refine aR 17 3 rfl λK hK=>?_
       go_simp
       have SA:=S2.below ((bR _ _).alloc (nl _) (.cells #[.string n0,.int .i64 n1,.int .i64 n2,.int .i64 n3,.string n4] 73 (0,0)));have ks:=cj.out _ SA.bel SA.c0;refine hK.out _ _ ks (λ_=>?_);clear hK;refine aR 18 2 rfl λK hK=>?_
       refine gF _ rfl _ _ 33 rfl w4.heap.size 73 j0 (.agg #[.string ⟨#[]⟩,.int .i64 0,.int .i64 0,.int .i64 0,.string ⟨#[]⟩]) 5 56 eX gi ej dX ek rfl (by decide) _ _ _ rfl (S2.o2.alloc _) ⟨t8.heap.size,0,none⟩ 1 1 [.string n0,.int .i64 n1,.int .i64 n2,.int .i64 n3,.string n4] rfl rfl (jT _ _ _ _ _ _ _) (cZ _ _ _ _ _) (by decide) (by unfold maxLen;omega) (by omega) (by simp;omega) _ rfl ?_;intro g7 ch t7 ay a7 aU bM;obtain⟨⟨q1,q2⟩,S4⟩:=S2.br a7 ay aU;have jd:=S2.mN a7;have hS7:=cj.out _ jd.2 jd.1;clear a7 ay aU bM jd;refine hK.out _ _ hS7 (λ_=>?_);clear hK;refine aR 19 1 rfl λK hK=>?_
       go_simp
       refine hK.out _ _ hS7 (λ_=>?_);clear hK;refine aR 20 0 rfl λK hK=>?_
       go_simp
       refine hK.out _ _ (cj.out _ S4.bel S4.c0) (λ_=>?_);clear hK;refine⟨by kernel_rfl,?_⟩;go_wp2_with fail
       go_roundw
       case rel=>exact⟨m+1,_,by omega,by go_num,by rw[HN];exact S4⟩
       case measure=>simp[intOf];omega
      ·go_simp
       refine mo (CP.out _ ((bR _ _).drew)) λt8 G8=>?_
       have S2:=S1.below (Below.trans ((bR _ _).drew) G8);have jy:=S2.c1;have jz:=S2.hb
       have oi:∀o,(t8.alloc o).cell? ⟨C,1,none⟩=some (.slice p2 m q2):=(λo=>(gW _ _ _ jz).trans jy)
       have qN:=cj.out _ S2.bel S2.c0;refine hK.out _ _ qN (λ_=>?_);clear hK;refine wY (rs:=[1,17]) (fuel:=4) (by kernel_rfl) (by simp) ?_;refine rC rfl (λK hK=>?_) (rC rfl (λK hK=>?_) rN)
       ·go_simp
        refine hK.out _ _ qN (λ_=>?_);clear hK;refine aR 17 3 rfl λK hK=>?_
        go_simp
        have SA:=S2.below ((bR _ _).alloc (nl _) (.cells #[.string n0,.int .i64 n1,.int .i64 n2,.int .i64 n3,.string n4] 73 (0,0)));have ks:=cj.out _ SA.bel SA.c0;refine hK.out _ _ ks (λ_=>?_);clear hK;refine aR 18 2 rfl λK hK=>?_
        refine gF _ rfl _ _ 33 rfl w4.heap.size 73 j0 (.agg #[.string ⟨#[]⟩,.int .i64 0,.int .i64 0,.int .i64 0,.string ⟨#[]⟩]) 5 56 eX gi ej dX ek rfl (by decide) _ _ _ rfl (S2.o2.alloc _) ⟨t8.heap.size,0,none⟩ 1 1 [.string n0,.int .i64 n1,.int .i64 n2,.int .i64 n3,.string n4] rfl rfl (jT _ _ _ _ _ _ _) (cZ _ _ _ _ _) (by decide) (by unfold maxLen;omega) (by omega) (by simp;omega) _ rfl ?_;intro g7 ch t7 ay a7 aU bM;obtain⟨⟨q1,q2⟩,S4⟩:=S2.br a7 ay aU;have jd:=S2.mN a7;have hS7:=cj.out _ jd.2 jd.1;clear a7 ay aU bM jd;refine hK.out _ _ hS7 (λ_=>?_);clear hK;refine aR 19 1 rfl λK hK=>?_
        go_simp
        refine hK.out _ _ hS7 (λ_=>?_);clear hK;refine aR 20 0 rfl λK hK=>?_
        go_simp
        refine hK.out _ _ (cj.out _ S4.bel S4.c0) (λ_=>?_);clear hK;refine⟨by kernel_rfl,?_⟩;go_wp2_with fail
        go_roundw
        case rel=>exact⟨m+1,_,by omega,by go_num,by rw[HN];exact S4⟩
        case measure=>simp[intOf];omega
       ·go_simp
        have SA:=S2.below ((bR _ _).alloc (nl _) (.cells #[.string n0,.int .i64 n1,.int .i64 n2,.int .i64 n3,.string n4] 73 (0,0)));have ks:=cj.out _ SA.bel SA.c0;refine hK.out _ _ ks (λ_=>?_);clear hK;refine aR 1 3 rfl λK hK=>?_
        go_simp
        refine hK.out _ _ ks (λ_=>?_);clear hK;refine aR 18 2 rfl λK hK=>?_
        refine gF _ rfl _ _ 33 rfl w4.heap.size 73 j0 (.agg #[.string ⟨#[]⟩,.int .i64 0,.int .i64 0,.int .i64 0,.string ⟨#[]⟩]) 5 56 eX gi ej dX ek rfl (by decide) _ _ _ rfl (S2.o2.alloc _) ⟨t8.heap.size,0,none⟩ 1 1 [.string n0,.int .i64 n1,.int .i64 n2,.int .i64 n3,.string n4] rfl rfl (jT _ _ _ _ _ _ _) (cZ _ _ _ _ _) (by decide) (by unfold maxLen;omega) (by omega) (by simp;omega) _ rfl ?_;intro g7 ch t7 ay a7 aU bM;obtain⟨⟨q1,q2⟩,S4⟩:=S2.br a7 ay aU;have jd:=S2.mN a7;have hS7:=cj.out _ jd.2 jd.1;clear a7 ay aU bM jd;refine hK.out _ _ hS7 (λ_=>?_);clear hK;refine aR 19 1 rfl λK hK=>?_
        go_simp
        refine hK.out _ _ hS7 (λ_=>?_);clear hK;refine aR 20 0 rfl λK hK=>?_
        go_simp
        refine hK.out _ _ (cj.out _ S4.bel S4.c0) (λ_=>?_);clear hK;refine⟨by kernel_rfl,?_⟩;go_wp2_with fail
        go_roundw
        case rel=>exact⟨m+1,_,by omega,by go_num,by rw[HN];exact S4⟩
        case measure=>simp[intOf];omega
    ·obtain rfl:m=k:=by omega
     have e2:decide ((m:Int)<(m:Int))=false:=by simp
     have iU:=S1.ne;have Be:=S1.c0;have Bf:=S1.c1;have hC2:=S1.hb;obtain⟨Bz,eS,eU,gd,gw⟩:=lP F4.b S1.o1 S1.o2 lW F4.r0 F4.r1;have hfin:=iH.out _ _ _ eS eU iU Bz;obtain⟨p2,q2,rfl,_⟩:=Zq S1.o2;clear S1 iH eS eU Bz;go_wp2_with fail
     generalize (wr.setCell _ _).setCell _ _=wz at*;exact bodyPost_ret (v:=.tuple #[.agg #[.slice (some ⟨g2,0,none⟩) (D+1) cp2,.slice p2 m q2],.int .i64 0]) (by simp[results,results49,go_sem,gd,gw]) rfl hfin
theorem TP(ad af:Option Addr)(cd cf:Nat)(a:Ar.A)(size:Int)(w:World)(h:bo w ad af a)(hs:ao a) :
 Calls prog 49 #[av ad cd af cf a,.int .i64 size] w λe w'=>ah w (WL a size) (V6 a size) e w':=by
 by_cases hE:V6 a size=0
 ·rw[zY hE,hE];exact TN ad af cd cf a size w h hs hE
 ·have e:WL a size=VC:=by unfold WL;rw[ab hE]
  rw[e];by_cases hc:Vz a=0
  ·by_cases hz:0<=size/\size<=256
   ·have h4:a.aa.length=4:=by
     rcases Nat.lt_or_ge a.aa.length 4 with h9|h9
     ·exfalso;apply hE;unfold V6;rw[ab (λh8=>h8 hc),ax hz,ab (by omega)]
     ·obtain⟨m1,_,_⟩:=Zj.1 (VV.1 hc).1;omega
    have e2:V6 a size=2:=by unfold V6;rw[ab (λh8=>h8 hc),ax hz,ax h4]
    rw[e2];exact Tz ad af cd cf a size w h hs hc hz h4
   ·have e2:V6 a size=3:=by unfold V6;rw[ab (λh8=>h8 hc),ab hz]
    rw[e2];exact Ty ad af cd cf a size w h hs hc hz
  ·have e2:V6 a size=Vz a:=by unfold V6;rw[ax hc]
   rw[e2];exact Tx ad af cd cf a size w h hs hc
open Dk (ba w1 w2 w3)
def gD(w:World)(b:Ar.A)(E:Int)(e:Ending)(w':World):Prop:=∃ad n cd af m cf,e=.returned (.tuple #[.agg #[.slice ad n cd,.slice af m cf],.int .i64 E])/\(E=0->aD w.heap.size w' (.slice ad n cd) (.slice af m cf) b)/\ae w w'
theorem Bt{b:Ar.A}{E:Int} :Hid (∀ad n cd af m cf w',(E=0->aD w.heap.size w' (.slice ad n cd) (.slice af m cf) b)->ae w w'->gD w b E (.returned (.tuple #[.agg #[.slice ad n cd,.slice af m cf],.int .i64 E])) w'):=λ_ _ _ _ _ _ _ h9 h8=>⟨_,_,_,_,_,_,rfl,h9,h8⟩
namespace Dk
theorem gV(h:¬Ws l):aa2 l=-1:=ab h
theorem YE(h:Ws l):aa2 l=(val l:Nat):=ax h
end Dk
theorem Fr.res(h:Fr w w' x y):Bx w' (w.heap.size+1) (.slice none 0 0) (.slice none 0 0):=⟨h.r0,h.r1,h.z0,h.z1,h.hz⟩
theorem Fr.two(h:Fr w w' x y)(u v:Value):((w'.setCell ⟨w.heap.size+1,0,none⟩ u).setCell ⟨w.heap.size+1,1,none⟩ v).cell? ⟨w.heap.size,0,none⟩=some x/\((w'.setCell ⟨w.heap.size+1,0,none⟩ u).setCell ⟨w.heap.size+1,1,none⟩ v).cell? ⟨w.heap.size,1,none⟩=some y :=
 ⟨Zg (Ze _ _ _) (Zg (Ze w' ⟨w.heap.size+1,0,none⟩ u) h.a0 (by simp)) (by simp),Zg (Ze _ _ _) (Zg (Ze w' ⟨w.heap.size+1,0,none⟩ u) h.a1 (by simp)) (by simp)⟩
def S2(w:World)(x y:Value)(w':World):Prop:=w'.cell? ⟨w.heap.size,0,none⟩=some x/\w'.cell? ⟨w.heap.size,1,none⟩=some y
theorem Fr.s2{u:World}(h:Fr w u x y):Hid (∀w',ae u w'->S2 w x y w'):=λ_ h9=>⟨(h.next h9).a0,(h.next h9).a1⟩
theorem Fr.put(h:Fr w w' x y)(u v:Value):Bx w' (w.heap.size+1) (.slice none 0 0) (.slice none 0 0)/\ae w ((w'.setCell ⟨w.heap.size+1,0,none⟩ u).setCell ⟨w.heap.size+1,1,none⟩ v)/\Bx ((w'.setCell ⟨w.heap.size+1,0,none⟩ u).setCell ⟨w.heap.size+1,1,none⟩ v) (w.heap.size+1) u v ∧
 ((w'.setCell ⟨w.heap.size+1,0,none⟩ u).setCell ⟨w.heap.size+1,1,none⟩ v).cell? ⟨w.heap.size,0,none⟩=some x/\((w'.setCell ⟨w.heap.size+1,0,none⟩ u).setCell ⟨w.heap.size+1,1,none⟩ v).cell? ⟨w.heap.size,1,none⟩=some y :=
 ⟨h.res,tg h.b (by omega) u v,h.res.set,h.two u v⟩
theorem TQ(ad af:Option Addr)(cd cf:Nat)(a:Ar.A)(r:List UInt8)(w:World)(h:bo w ad af a)(hc:Vz a=0)(hr:r.length<=100000)(m1:w3 r=true)(m2:w3 (w2 r)=true)(hn:Ws (w1 (w2 r))) :
 Calls prog 28 #[av ad cd af cf a,.string ⟨#[112,117,116]⟩,.string (ba r)] w λe w'=>gD w (bW a (ba (w1 r)) (ba (w2 (w2 r))) (Dk.val (w1 (w2 r)))) (aO a (ba (w1 r)) (ba (w2 (w2 r))) (Dk.val (w1 (w2 r)))) e w':=by
 have F0:=Fr.start w (.slice ad a.aa.length cd) (.slice af a.files.length cf);have L1:=aA r;have L2:=aA (w2 r);have C1:=λw'=>Zi (ba r) w' (by rw[VF];omega)
 rw[VL,m1]at C1;have C2:=λw'=>Zi (ba (w2 r)) w' (by rw[VF];omega)
 rw[VL,m2]at C2;have C3:=λw'=>mY (ba (w1 (w2 r))) w' (by rw[VF];omega)
 rw[VL,YE hn]at C3;have CP:Hid (∀w',ae w w'->Calls prog 47 #[av ad cd af cf a,.string (ba (w1 r)),.string (ba (w2 (w2 r))),.int .i64 (Dk.val (w1 (w2 r)):Nat)] w' λe wz=>ah w' (bW a (ba (w1 r)) (ba (w2 (w2 r))) (Dk.val (w1 (w2 r)))) (aO a (ba (w1 r)) (ba (w2 (w2 r))) (Dk.val (w1 (w2 r)))) e wz):=λw' h9=>Tq ad af cd cf a _ _ _ w' (h.below h9) (Wy hc) (by rw[VF];omega)
 unfold av at CP |-
 have HQ:=@Bt w (bW a (ba (w1 r)) (ba (w2 (w2 r))) (Dk.val (w1 (w2 r)))) (aO a (ba (w1 r)) (ba (w2 (w2 r))) (Dk.val (w1 (w2 r))));generalize gD w (bW a (ba (w1 r)) (ba (w2 (w2 r))) (Dk.val (w1 (w2 r)))) (aO a (ba (w1 r)) (ba (w2 (w2 r))) (Dk.val (w1 (w2 r))))=Q at*;generalize bW a (ba (w1 r)) (ba (w2 (w2 r))) (Dk.val (w1 (w2 r)))=A9 at*;generalize aO a (ba (w1 r)) (ba (w2 (w2 r))) (Dk.val (w1 (w2 r)))=E9 at*;have dn:decide (((Dk.val (w1 (w2 r)):Nat):Int)<0)=false:=dF (by omega);generalize Dk.val (w1 (w2 r))=n9 at*;generalize ba (w2 (w2 r))=t9 at*;generalize ba (w1 (w2 r))=d9 at*;generalize ba (w2 r)=r9 at*;generalize ba (w1 r)=s9 at*;generalize ba r=q9 at*;clear h hc hr m1 m2 hn L1 L2;generalize a.aa.length=D at*;generalize a.files.length=N at*;go_enter func28,ntmps28
 go_wp2_with fail
 refine mo (C1 _) λu1 G1=>?_
 have F1:=F0.next G1;go_wp2_with fail
 refine mo (C2 _) λu2 G2=>?_
 have F2:=F1.next G2;go_wp2_with fail
 refine mo (C3 _) λu3 G3=>?_
 have F3:=F2.next G3;clear C1 C2 F0 F1 F2 G1 G2 G3;go_wp2_with fail
 have HS:=F3.s2;have D0:=(bR u3.heap.size u3).drew;refine wp_region_held_drew (S:=S2 w (.slice ad D cd) (.slice af N cf)) (by kernel_rfl) (HS.out _ D0) (λhS=>?_);refine aE 0 9 (.agg #[.slice ad D cd,.slice af N cf]) rfl (λw' ⟨k0,k1⟩=>by go_simp) hS ?_;refine aE 1 8 (.string s9) rfl (λw' ⟨k0,k1⟩=>by go_simp) hS ?_;refine aE 2 7 (.string t9) rfl (λw' ⟨k0,k1⟩=>by go_simp) hS ?_;refine aE 3 6 (.string d9) rfl (λw' ⟨k0,k1⟩=>by go_simp) hS ?_;refine aR 4 5 rfl λK hK=>?_
 go_simp
 go_at_call 46
 refine mo (C3 _) λu4 H4=>?_
 have G4:=ag D0 H4;have F4:=F3.next G4;have hS4:=HS.out _ G4;refine hK.out _ _ hS4 (λ_=>?_);clear hK H4;refine aR 5 4 rfl λK hK=>?_
 go_simp
 go_at_call 47
 refine(CP.out _ F4.b).mono ?_;intro e u5 A5;obtain⟨cP,cQ,af3,cf3,rfl,O3,G5⟩:=A5.own;have F5:=F4.next G5;have qM:=F4.hz;have hS5:=HS.out _ (ag G4 G5);obtain⟨⟨r0,r1,z0,z1,_⟩,Bz,⟨y0,y1,_⟩,hSz⟩:=F5.put (.slice cP A9.aa.length cQ) (.slice af3 A9.files.length cf3);have Oz:=(O3.set2 (b:=w.heap.size+1) (by omega) (.slice cP A9.aa.length cQ) (.slice af3 A9.files.length cf3)).low (lo':=w.heap.size) (by omega);have hfin:=HQ.out _ _ _ _ _ _ _ (λ_=>Oz) Bz;clear O3 A5 Oz Bz HQ;generalize A9.aa.length=D3 at*;generalize A9.files.length=N3 at*;refine hK.out _ _ hS5 (λ_=>?_);clear hK;refine aE 6 3 (.agg #[.slice cP D3 cQ,.slice af3 N3 cf3]) rfl (λw' ⟨k0,k1⟩=>by go_simp) hS5 ?_;refine aE 7 2 (.int .i64 E9) rfl (λw' ⟨k0,k1⟩=>by go_simp) hS5 ?_;refine aR 8 1 rfl λK hK=>?_
 go_simp
 refine hK.out _ _ hSz (λ_=>?_);clear hK;refine aR 9 0 rfl λK hK=>?_
 go_simp
 refine hK.out _ _ hSz (λ_=>?_);clear hK;refine⟨by kernel_rfl,?_⟩;clear r0 r1 z0 z1 hS hS4 hS5 hSz HS F3 F4 F5;generalize (u5.setCell _ _).setCell _ _=uz at*;go_wp2_with fail
 exact bodyPost_ret (v:=.tuple #[.agg #[.slice cP D3 cQ,.slice af3 N3 cf3],.int .i64 E9]) (by simp[results,results28,go_sem,y0,y1]) rfl hfin
theorem TR(ad af:Option Addr)(cd cf:Nat)(a:Ar.A)(r:List UInt8)(w:World)(h:bo w ad af a)(hc:Vz a=0)(hr:r.length<=100000)(hn:Ws r) :
 Calls prog 28 #[av ad cd af cf a,.string ⟨#[116,114,97,105,110]⟩,.string (ba r)] w λe w'=>gD w (WL a (Dk.val r)) (V6 a (Dk.val r)) e w':=by
 have F0:=Fr.start w (.slice ad a.aa.length cd) (.slice af a.files.length cf);have L1:=aA r;have L2:=aA (w2 r);have C1:=λw'=>Zi (ba r) w' (by rw[VF];omega)
 rw[VL]at C1;have C3:=λw'=>mY (ba r) w' (by rw[VF];omega)
 rw[VL,YE hn]at C3;have CP:Hid (∀w',ae w w'->Calls prog 49 #[av ad cd af cf a,.int .i64 (Dk.val r:Nat)] w' λe wz=>ah w' (WL a (Dk.val r)) (V6 a (Dk.val r)) e wz):=λw' h9=>TP ad af cd cf a _ w' (h.below h9) (Wy hc)
 unfold av at CP |-
 have HQ:=@Bt w (WL a (Dk.val r)) (V6 a (Dk.val r));generalize gD w (WL a (Dk.val r)) (V6 a (Dk.val r))=Q at*;generalize WL a (Dk.val r)=A9 at*;generalize V6 a (Dk.val r)=E9 at*;have dn:decide (((Dk.val r:Nat):Int)<0)=false:=dF (by omega);generalize Dk.val r=n9 at*;generalize ba (w2 r)=r9 at*;generalize ba (w1 r)=s9 at*;generalize ba r=q9 at*;generalize w3 r=b9 at*;clear h hc hr hn L1 L2;generalize a.aa.length=D at*;generalize a.files.length=N at*;go_enter func28,ntmps28
 go_wp2_with fail
 refine mo (C1 _) λu1 G1=>?_
 have F1:=F0.next G1;go_wp2_with fail
 refine mo (C3 _) λu3 G3=>?_
 have F3:=F1.next G3;clear C1 F0 F1 G1 G3;go_wp2_with fail
 have HS:=F3.s2;have D0:=(bR u3.heap.size u3).drew;refine wp_region_held_drew (S:=S2 w (.slice ad D cd) (.slice af N cf)) (by kernel_rfl) (HS.out _ D0) (λhS=>?_);refine aE 0 7 (.agg #[.slice ad D cd,.slice af N cf]) rfl (λw' ⟨k0,k1⟩=>by go_simp) hS ?_;refine aE 1 6 (.string q9) rfl (λw' ⟨k0,k1⟩=>by go_simp) hS ?_;refine aR 2 5 rfl λK hK=>?_
 go_simp
 go_at_call 46
 refine mo (C3 _) λu4 H4=>?_
 have G4:=ag D0 H4;have F4:=F3.next G4;have hS4:=HS.out _ G4;refine hK.out _ _ hS4 (λ_=>?_);clear hK H4;refine aR 3 4 rfl λK hK=>?_
 go_simp
 go_at_call 49
 refine(CP.out _ F4.b).mono ?_;intro e u5 A5;obtain⟨cP,cQ,af3,cf3,rfl,O3,G5⟩:=A5.own;have F5:=F4.next G5;have qM:=F4.hz;have hS5:=HS.out _ (ag G4 G5);obtain⟨⟨r0,r1,z0,z1,_⟩,Bz,⟨y0,y1,_⟩,hSz⟩:=F5.put (.slice cP A9.aa.length cQ) (.slice af3 A9.files.length cf3);have Oz:=(O3.set2 (b:=w.heap.size+1) (by omega) (.slice cP A9.aa.length cQ) (.slice af3 A9.files.length cf3)).low (lo':=w.heap.size) (by omega);have hfin:=HQ.out _ _ _ _ _ _ _ (λ_=>Oz) Bz;clear O3 A5 Oz Bz HQ;generalize A9.aa.length=D3 at*;generalize A9.files.length=N3 at*;refine hK.out _ _ hS5 (λ_=>?_);clear hK;refine aE 4 3 (.agg #[.slice cP D3 cQ,.slice af3 N3 cf3]) rfl (λw' ⟨k0,k1⟩=>by go_simp) hS5 ?_;refine aE 5 2 (.int .i64 E9) rfl (λw' ⟨k0,k1⟩=>by go_simp) hS5 ?_;refine aR 6 1 rfl λK hK=>?_
 go_simp
 refine hK.out _ _ hSz (λ_=>?_);clear hK;refine aR 7 0 rfl λK hK=>?_
 go_simp
 refine hK.out _ _ hSz (λ_=>?_);clear hK;refine⟨by kernel_rfl,?_⟩;clear r0 r1 z0 z1 hS hS4 hS5 hSz HS F3 F4 F5;generalize (u5.setCell _ _).setCell _ _=uz at*;go_wp2_with fail
 exact bodyPost_ret (v:=.tuple #[.agg #[.slice cP D3 cQ,.slice af3 N3 cf3],.int .i64 E9]) (by simp[results,results28,go_sem,y0,y1]) rfl hfin
theorem TS(ad af:Option Addr)(cd cf:Nat)(a:Ar.A)(r:List UInt8)(w:World)(h:bo w ad af a)(hc:Vz a=0)(hr:r.length<=100000)(m1:w3 r=false) :
 Calls prog 28 #[av ad cd af cf a,.string ⟨#[100,114,111,112]⟩,.string (ba r)] w λe w'=>gD w (Wf a (ba (w1 r))) (VE a (ba (w1 r))) e w':=by
 have F0:=Fr.start w (.slice ad a.aa.length cd) (.slice af a.files.length cf);have L1:=aA r;have L2:=aA (w2 r);have C1:=λw'=>Zi (ba r) w' (by rw[VF];omega)
 rw[VL,m1]at C1;have CP:Hid (∀w',ae w w'->Calls prog 48 #[av ad cd af cf a,.string (ba (w1 r))] w' λe wz=>ah w' (Wf a (ba (w1 r))) (VE a (ba (w1 r))) e wz):=λw' h9=>Tw ad af cd cf a _ w' (h.below h9) (Wy hc)
 unfold av at CP |-
 have HQ:=@Bt w (Wf a (ba (w1 r))) (VE a (ba (w1 r)));generalize gD w (Wf a (ba (w1 r))) (VE a (ba (w1 r)))=Q at*;generalize Wf a (ba (w1 r))=A9 at*;generalize VE a (ba (w1 r))=E9 at*;generalize ba (w2 r)=r9 at*;generalize ba (w1 r)=s9 at*;generalize ba r=q9 at*;clear h hc hr m1 L1 L2;generalize a.aa.length=D at*;generalize a.files.length=N at*;go_enter func28,ntmps28
 go_wp2_with fail
 refine mo (C1 _) λu1 G1=>?_
 have F1:=F0.next G1;have a0:=F1.a0;have a1:=F1.a1;go_wp2_with fail
 refine(CP.out _ F1.b).mono ?_;intro e u5 A5;obtain⟨cP,cQ,af3,cf3,rfl,O3,G5⟩:=A5.own;have F5:=F1.next G5;have qM:=F1.hz;obtain⟨⟨r0,r1,z0,z1,_⟩,Bz,⟨y0,y1,_⟩,_⟩:=F5.put (.slice cP A9.aa.length cQ) (.slice af3 A9.files.length cf3);have Oz:=(O3.set2 (b:=w.heap.size+1) (by omega) (.slice cP A9.aa.length cQ) (.slice af3 A9.files.length cf3)).low (lo':=w.heap.size) (by omega);clear a0 a1 F0 F1 F5 O3 A5;go_wp2_with fail
 exact bodyPost_ret (v:=.tuple #[.agg #[.slice cP A9.aa.length cQ,.slice af3 A9.files.length cf3],.int .i64 E9]) (by simp[results,results28,go_sem,y0,y1]) rfl (HQ.out _ _ _ _ _ _ _ (λ_=>Oz) Bz)
theorem TU(ad af:Option Addr)(cd cf:Nat)(a:Ar.A)(r:List UInt8)(w:World)(hr:r.length<=100000)(m1:w3 r=false) :
 Calls prog 28 #[av ad cd af cf a,.string ⟨#[112,117,116]⟩,.string (ba r)] w λe w'=>gD w (VC) (1) e w':=by
 have F0:=Fr.start w (.slice ad a.aa.length cd) (.slice af a.files.length cf);have L1:=aA r;have L2:=aA (w2 r);have C1:=λw'=>Zi (ba r) w' (by rw[VF];omega)
 rw[VL,m1]at C1;have C2:=λw'=>Zi (ba (w2 r)) w' (by rw[VF];omega)
 rw[VL]at C2;unfold av gD;clear m1 L1 L2;generalize w3 (w2 r)=b9 at*;generalize ba (w2 (w2 r))=t9 at*;generalize ba (w1 (w2 r))=d9 at*;generalize ba (w2 r)=r9 at*;generalize ba (w1 r)=s9 at*;generalize ba r=q9 at*;go_enter func28,ntmps28
 go_wp2_with fail
 refine mo (C1 _) λu1 G1=>?_
 have F1:=F0.next G1;go_wp2_with fail
 refine mo (C2 _) λu2 G2=>?_
 have F2:=F1.next G2;clear C1 C2 F0 F1 G1 G2;obtain⟨⟨r0,r1,z0,z1,_⟩,Bz,⟨y0,y1,_⟩,_⟩:=F2.put (.slice ad a.aa.length cd) (.slice af a.files.length cf);have a0:=F2.a0;have a1:=F2.a1;go_wp2_with fail
 exact bodyPost_ret (v:=.tuple #[.agg #[.slice ad a.aa.length cd,.slice af a.files.length cf],.int .i64 1]) (by simp[results,results28,go_sem,y0,y1]) rfl ⟨ad,_,cd,af,_,cf,rfl,λh9=>absurd h9 (by decide),Bz⟩
theorem TV(ad af:Option Addr)(cd cf:Nat)(a:Ar.A)(r:List UInt8)(w:World)(hr:r.length<=100000)(m1:w3 r=true)(m2:w3 (w2 r)=false) :
 Calls prog 28 #[av ad cd af cf a,.string ⟨#[112,117,116]⟩,.string (ba r)] w λe w'=>gD w (VC) (1) e w':=by
 have F0:=Fr.start w (.slice ad a.aa.length cd) (.slice af a.files.length cf);have L1:=aA r;have L2:=aA (w2 r);have C1:=λw'=>Zi (ba r) w' (by rw[VF];omega)
 rw[VL,m1]at C1;have C2:=λw'=>Zi (ba (w2 r)) w' (by rw[VF];omega)
 rw[VL,m2]at C2;unfold av gD;clear m1 m2 L1 L2;generalize ba (w2 (w2 r))=t9 at*;generalize ba (w1 (w2 r))=d9 at*;generalize ba (w2 r)=r9 at*;generalize ba (w1 r)=s9 at*;generalize ba r=q9 at*;go_enter func28,ntmps28
 go_wp2_with fail
 refine mo (C1 _) λu1 G1=>?_
 have F1:=F0.next G1;go_wp2_with fail
 refine mo (C2 _) λu2 G2=>?_
 have F2:=F1.next G2;clear C1 C2 F0 F1 G1 G2;obtain⟨⟨r0,r1,z0,z1,_⟩,Bz,⟨y0,y1,_⟩,_⟩:=F2.put (.slice ad a.aa.length cd) (.slice af a.files.length cf);have a0:=F2.a0;have a1:=F2.a1;go_wp2_with fail
 exact bodyPost_ret (v:=.tuple #[.agg #[.slice ad a.aa.length cd,.slice af a.files.length cf],.int .i64 1]) (by simp[results,results28,go_sem,y0,y1]) rfl ⟨ad,_,cd,af,_,cf,rfl,λh9=>absurd h9 (by decide),Bz⟩
theorem TW(ad af:Option Addr)(cd cf:Nat)(a:Ar.A)(r:List UInt8)(w:World)(hr:r.length<=100000)(m1:w3 r=true)(m2:w3 (w2 r)=true)(hn:¬Ws (w1 (w2 r))) :
 Calls prog 28 #[av ad cd af cf a,.string ⟨#[112,117,116]⟩,.string (ba r)] w λe w'=>gD w (VC) (1) e w':=by
 have F0:=Fr.start w (.slice ad a.aa.length cd) (.slice af a.files.length cf);have L1:=aA r;have L2:=aA (w2 r);have C1:=λw'=>Zi (ba r) w' (by rw[VF];omega)
 rw[VL,m1]at C1;have C2:=λw'=>Zi (ba (w2 r)) w' (by rw[VF];omega)
 rw[VL,m2]at C2;have C3:=λw'=>mY (ba (w1 (w2 r))) w' (by rw[VF];omega)
 rw[VL,gV hn]at C3;unfold av gD;clear m1 m2 hn L1 L2;generalize ba (w2 (w2 r))=t9 at*;generalize ba (w1 (w2 r))=d9 at*;generalize ba (w2 r)=r9 at*;generalize ba (w1 r)=s9 at*;generalize ba r=q9 at*;go_enter func28,ntmps28
 go_wp2_with fail
 refine mo (C1 _) λu1 G1=>?_
 have F1:=F0.next G1;go_wp2_with fail
 refine mo (C2 _) λu2 G2=>?_
 have F2:=F1.next G2;go_wp2_with fail
 refine mo (C3 _) λu3 G3=>?_
 have F3:=F2.next G3;clear C1 C2 C3 F0 F1 F2 G1 G2 G3;obtain⟨⟨r0,r1,z0,z1,_⟩,Bz,⟨y0,y1,_⟩,_⟩:=F3.put (.slice ad a.aa.length cd) (.slice af a.files.length cf);have a0:=F3.a0;have a1:=F3.a1;go_wp2_with fail
 exact bodyPost_ret (v:=.tuple #[.agg #[.slice ad a.aa.length cd,.slice af a.files.length cf],.int .i64 1]) (by simp[results,results28,go_sem,y0,y1]) rfl ⟨ad,_,cd,af,_,cf,rfl,λh9=>absurd h9 (by decide),Bz⟩
theorem TY(ad af:Option Addr)(cd cf:Nat)(a:Ar.A)(r:List UInt8)(w:World)(hr:r.length<=100000)(m1:w3 r=true) :
 Calls prog 28 #[av ad cd af cf a,.string ⟨#[100,114,111,112]⟩,.string (ba r)] w λe w'=>gD w (VC) (1) e w':=by
 have F0:=Fr.start w (.slice ad a.aa.length cd) (.slice af a.files.length cf);have L1:=aA r;have L2:=aA (w2 r);have C1:=λw'=>Zi (ba r) w' (by rw[VF];omega)
 rw[VL,m1]at C1;unfold av gD;clear m1 L1 L2;generalize ba (w2 r)=r9 at*;generalize ba (w1 r)=s9 at*;generalize ba r=q9 at*;go_enter func28,ntmps28
 go_wp2_with fail
 refine mo (C1 _) λu1 G1=>?_
 have F1:=F0.next G1;clear C1 F0 G1;obtain⟨⟨r0,r1,z0,z1,_⟩,Bz,⟨y0,y1,_⟩,_⟩:=F1.put (.slice ad a.aa.length cd) (.slice af a.files.length cf);have a0:=F1.a0;have a1:=F1.a1;go_wp2_with fail
 exact bodyPost_ret (v:=.tuple #[.agg #[.slice ad a.aa.length cd,.slice af a.files.length cf],.int .i64 1]) (by simp[results,results28,go_sem,y0,y1]) rfl ⟨ad,_,cd,af,_,cf,rfl,λh9=>absurd h9 (by decide),Bz⟩
theorem TZ(ad af:Option Addr)(cd cf:Nat)(a:Ar.A)(r:List UInt8)(w:World)(hr:r.length<=100000)(hn:¬Ws r) :
 Calls prog 28 #[av ad cd af cf a,.string ⟨#[116,114,97,105,110]⟩,.string (ba r)] w λe w'=>gD w (VC) (1) e w':=by
 have F0:=Fr.start w (.slice ad a.aa.length cd) (.slice af a.files.length cf);have L1:=aA r;have L2:=aA (w2 r);have C1:=λw'=>Zi (ba r) w' (by rw[VF];omega)
 rw[VL]at C1;have C3:=λw'=>mY (ba r) w' (by rw[VF];omega)
 rw[VL,gV hn]at C3;unfold av gD;clear hn L1 L2;generalize ba (w2 r)=r9 at*;generalize ba (w1 r)=s9 at*;generalize w3 r=b9 at*;generalize ba r=q9 at*;go_enter func28,ntmps28
 go_wp2_with fail
 refine mo (C1 _) λu1 G1=>?_
 have F1:=F0.next G1;go_wp2_with fail
 refine mo (C3 _) λu3 G3=>?_
 have F3:=F1.next G3;clear C1 C3 F0 F1 G1 G3;obtain⟨⟨r0,r1,z0,z1,_⟩,Bz,⟨y0,y1,_⟩,_⟩:=F3.put (.slice ad a.aa.length cd) (.slice af a.files.length cf);have a0:=F3.a0;have a1:=F3.a1;go_wp2_with fail
 exact bodyPost_ret (v:=.tuple #[.agg #[.slice ad a.aa.length cd,.slice af a.files.length cf],.int .i64 1]) (by simp[results,results28,go_sem,y0,y1]) rfl ⟨ad,_,cd,af,_,cf,rfl,λh9=>absurd h9 (by decide),Bz⟩
open Go.Sort (grow)
open Dk (ba w1 w2 w3)
theorem Ua(ad af:Option Addr)(cd cf:Nat)(a:Ar.A)(r:List UInt8)(w:World)(h:bo w ad af a)(hc:Vz a=0)(hr:r.length<=100000)(m1:w3 r=false) :
 CB 29 #[av ad cd af cf a,.string ⟨#[103,101,116]⟩,.string (ba r)] w (.tuple #[.string (bD a (ba (w1 r))),.int .i64 (VE a (ba (w1 r)))]):=by
 have B0:=Zb w (.cells #[.slice ad a.aa.length cd,.slice af a.files.length cf] 35 (0,0));have L1:=aA r;have L2:=aA (w2 r);have XA:=Bx.new w (.slice ad a.aa.length cd) (.slice af a.files.length cf);have C1:=λw'=>Zi (ba r) w' (by rw[VF];omega)
 rw[VL,m1]at C1;have CP:Hid (∀w',ae w w'->CB 50 #[av ad cd af cf a,.string (ba (w1 r))] w' (.tuple #[.string (bD a (ba (w1 r))),.int .i64 (VE a (ba (w1 r)))])):=λw' h9=>GC ad af cd cf a _ w' (h.below h9) (Wy hc) (λw8 h8=>Zn ad af cd cf a w8 ((h.below h9).below h8) (Wy hc))
 unfold av at CP |-
 clear h hc hr m1 L1 L2;generalize bD a (ba (w1 r))=T9 at*;generalize VE a (ba (w1 r))=E9 at*;generalize ba (w2 r)=r9 at*;generalize ba (w1 r)=s9 at*;generalize ba r=q9 at*;generalize a.aa.length=D at*;generalize a.files.length=N at*;go_enter func29,ntmps29
 go_wp2_with fail
 refine mo (C1 _) λu1 G1=>?_
 have B1:=ag B0 G1;have X1:=XA.next G1;have x0:=X1.c0;have x1:=X1.c1;go_wp2_with fail
 refine mo (CP.out _ B1) λu2 G2=>?_
 go_wp2_with fail
 go_ret2
 exact⟨rfl,ag B1 G2⟩
theorem Ub(ad af:Option Addr)(cd cf:Nat)(a:Ar.A)(r:List UInt8)(w:World)(hr:r.length<=100000)(m1:w3 r=true) :
 CB 29 #[av ad cd af cf a,.string ⟨#[103,101,116]⟩,.string (ba r)] w (.tuple #[.string (⟨#[]⟩),.int .i64 (1)]):=by
 have B0:=Zb w (.cells #[.slice ad a.aa.length cd,.slice af a.files.length cf] 35 (0,0));have L1:=aA r;have L2:=aA (w2 r);have C1:=λw'=>Zi (ba r) w' (by rw[VF];omega)
 rw[VL,m1]at C1;unfold av;clear hr m1 L1 L2;generalize ba (w2 r)=r9 at*;generalize ba (w1 r)=s9 at*;generalize ba r=q9 at*;go_enter func29,ntmps29
 go_wp2_with fail
 refine mo (C1 _) λu1 G1=>?_
 have B1:=ag B0 G1;go_wp2_with fail
 go_ret2
 exact⟨rfl,B1⟩
theorem Uc(ad af:Option Addr)(cd cf:Nat)(a:Ar.A)(r:List UInt8)(w:World)(hr:r.length<=100000)(m1:w3 r=false) :
 CB 29 #[av ad cd af cf a,.string ⟨#[114,97,110,103,101]⟩,.string (ba r)] w (.tuple #[.string (⟨#[]⟩),.int .i64 (1)]):=by
 have B0:=Zb w (.cells #[.slice ad a.aa.length cd,.slice af a.files.length cf] 35 (0,0));have L1:=aA r;have L2:=aA (w2 r);have C1:=λw'=>Zi (ba r) w' (by rw[VF];omega)
 rw[VL,m1]at C1;have C2:=λw'=>Zi (ba (w2 r)) w' (by rw[VF];omega)
 rw[VL]at C2;unfold av;clear hr L1 L2 m1;generalize w3 (w2 r)=b9 at*;generalize ba (w2 (w2 r))=t9 at*;generalize ba (w1 (w2 r))=d9 at*;generalize ba (w2 r)=r9 at*;generalize ba (w1 r)=s9 at*;generalize ba r=q9 at*;go_enter func29,ntmps29
 go_wp2_with fail
 refine mo (C1 _) λu1 G1=>?_
 have B1:=ag B0 G1;go_wp2_with fail
 refine mo (C2 _) λu2 G2=>?_
 have B2:=ag B1 G2;go_wp2_with fail
 go_ret2
 exact⟨rfl,B2⟩
theorem Ud(ad af:Option Addr)(cd cf:Nat)(a:Ar.A)(r:List UInt8)(w:World)(hr:r.length<=100000)(m1:w3 r=true)(m2:w3 (w2 r)=false) :
 CB 29 #[av ad cd af cf a,.string ⟨#[114,97,110,103,101]⟩,.string (ba r)] w (.tuple #[.string (⟨#[]⟩),.int .i64 (1)]):=by
 have B0:=Zb w (.cells #[.slice ad a.aa.length cd,.slice af a.files.length cf] 35 (0,0));have L1:=aA r;have L2:=aA (w2 r);have C1:=λw'=>Zi (ba r) w' (by rw[VF];omega)
 rw[VL,m1]at C1;have C2:=λw'=>Zi (ba (w2 r)) w' (by rw[VF];omega)
 rw[VL,m2]at C2;unfold av;clear hr L1 L2 m1 m2;generalize ba (w2 (w2 r))=t9 at*;generalize ba (w1 (w2 r))=d9 at*;generalize ba (w2 r)=r9 at*;generalize ba (w1 r)=s9 at*;generalize ba r=q9 at*;go_enter func29,ntmps29
 go_wp2_with fail
 refine mo (C1 _) λu1 G1=>?_
 have B1:=ag B0 G1;go_wp2_with fail
 refine mo (C2 _) λu2 G2=>?_
 have B2:=ag B1 G2;go_wp2_with fail
 go_ret2
 exact⟨rfl,B2⟩
theorem Ue(ad af:Option Addr)(cd cf:Nat)(a:Ar.A)(r:List UInt8)(w:World)(hr:r.length<=100000)(m1:w3 r=true)(m2:w3 (w2 r)=true)(n1:¬Ws (w1 (w2 r))) :
 CB 29 #[av ad cd af cf a,.string ⟨#[114,97,110,103,101]⟩,.string (ba r)] w (.tuple #[.string (⟨#[]⟩),.int .i64 (1)]):=by
 have B0:=Zb w (.cells #[.slice ad a.aa.length cd,.slice af a.files.length cf] 35 (0,0));have L1:=aA r;have L2:=aA (w2 r);have C1:=λw'=>Zi (ba r) w' (by rw[VF];omega)
 rw[VL,m1]at C1;have C2:=λw'=>Zi (ba (w2 r)) w' (by rw[VF];omega)
 rw[VL,m2]at C2;have C3:=λw'=>mY (ba (w1 (w2 r))) w' (by rw[VF];omega)
 rw[VL,gV n1]at C3;unfold av;clear hr L1 L2 m1 m2 n1;generalize ba (w2 (w2 r))=t9 at*;generalize ba (w1 (w2 r))=d9 at*;generalize ba (w2 r)=r9 at*;generalize ba (w1 r)=s9 at*;generalize ba r=q9 at*;go_enter func29,ntmps29
 go_wp2_with fail
 refine mo (C1 _) λu1 G1=>?_
 have B1:=ag B0 G1;go_wp2_with fail
 refine mo (C2 _) λu2 G2=>?_
 have B2:=ag B1 G2;go_wp2_with fail
 refine mo (C3 _) λu3 G3=>?_
 have B3:=ag B2 G3;go_wp2_with fail
 go_ret2
 exact⟨rfl,B3⟩
theorem Uf(ad af:Option Addr)(cd cf:Nat)(a:Ar.A)(r:List UInt8)(w:World)(hr:r.length<=100000)(m1:w3 r=true)(m2:w3 (w2 r)=true)(n1:Ws (w1 (w2 r)))(n2:¬Ws (w2 (w2 r))) :
 CB 29 #[av ad cd af cf a,.string ⟨#[114,97,110,103,101]⟩,.string (ba r)] w (.tuple #[.string (⟨#[]⟩),.int .i64 (1)]):=by
 have B0:=Zb w (.cells #[.slice ad a.aa.length cd,.slice af a.files.length cf] 35 (0,0));have L1:=aA r;have L2:=aA (w2 r);have C1:=λw'=>Zi (ba r) w' (by rw[VF];omega)
 rw[VL,m1]at C1;have C2:=λw'=>Zi (ba (w2 r)) w' (by rw[VF];omega)
 rw[VL,m2]at C2;have C3:=λw'=>mY (ba (w1 (w2 r))) w' (by rw[VF];omega)
 rw[VL,YE n1]at C3;have C4:=λw'=>mY (ba (w2 (w2 r))) w' (by rw[VF];omega)
 rw[VL,gV n2]at C4;have dn:decide (((Dk.val (w1 (w2 r)):Nat):Int)<0)=false:=dF (by omega);unfold av;clear hr L1 L2 m1 m2 n1 n2;generalize Dk.val (w1 (w2 r))=n9 at*;generalize ba (w2 (w2 r))=t9 at*;generalize ba (w1 (w2 r))=d9 at*;generalize ba (w2 r)=r9 at*;generalize ba (w1 r)=s9 at*;generalize ba r=q9 at*;go_enter func29,ntmps29
 go_wp2_with fail
 refine mo (C1 _) λu1 G1=>?_
 have B1:=ag B0 G1;go_wp2_with fail
 refine mo (C2 _) λu2 G2=>?_
 have B2:=ag B1 G2;go_wp2_with fail
 refine mo (C3 _) λu3 G3=>?_
 have B3:=ag B2 G3;go_wp2_with fail
 refine mo (C4 _) λu4 G4=>?_
 have B4:=ag B3 G4;go_wp2_with fail
 go_ret2
 exact⟨rfl,B4⟩
theorem Ug(ad af:Option Addr)(cd cf:Nat)(a:Ar.A)(r:List UInt8)(w:World)(h:bo w ad af a)(hc:Vz a=0)(hr:r.length<=100000)(m1:w3 r=true)(m2:w3 (w2 r)=true)(n1:Ws (w1 (w2 r)))(n2:Ws (w2 (w2 r))) :
 CB 29 #[av ad cd af cf a,.string ⟨#[114,97,110,103,101]⟩,.string (ba r)] w (.tuple #[.string (W7 a (ba (w1 r)) (Dk.val (w1 (w2 r))) (Dk.val (w2 (w2 r)))),.int .i64 (WO a (ba (w1 r)) (Dk.val (w1 (w2 r))) (Dk.val (w2 (w2 r))))]):=by
 have B0:=Zb w (.cells #[.slice ad a.aa.length cd,.slice af a.files.length cf] 35 (0,0));have L1:=aA r;have L2:=aA (w2 r);have XA:=Bx.new w (.slice ad a.aa.length cd) (.slice af a.files.length cf);have C1:=λw'=>Zi (ba r) w' (by rw[VF];omega)
 rw[VL,m1]at C1;have C2:=λw'=>Zi (ba (w2 r)) w' (by rw[VF];omega)
 rw[VL,m2]at C2;have v1:=eY n1;have v2:=eY n2;have C3:=λw'=>mY (ba (w1 (w2 r))) w' (by rw[VF];omega)
 rw[VL,YE n1]at C3;have C4:=λw'=>mY (ba (w2 (w2 r))) w' (by rw[VF];omega)
 rw[VL,YE n2]at C4;have dn:decide (((Dk.val (w1 (w2 r)):Nat):Int)<0)=false:=dF (by omega);have dm:decide (((Dk.val (w2 (w2 r)):Nat):Int)<0)=false:=dF (by omega);have CP:Hid (∀w',ae w w'->CB 51 #[av ad cd af cf a,.string (ba (w1 r)),.int .i64 (Dk.val (w1 (w2 r)):Nat),.int .i64 (Dk.val (w2 (w2 r)):Nat)] w' (.tuple #[.string (W7 a (ba (w1 r)) (Dk.val (w1 (w2 r))) (Dk.val (w2 (w2 r)))),.int .i64 (WO a (ba (w1 r)) (Dk.val (w1 (w2 r))) (Dk.val (w2 (w2 r))))])):=λw' h9=>Ra ad af cd cf a _ _ _ w' (h.below h9) (Wy hc) (by omega) (by omega) (λw8 h8=>Zn ad af cd cf a w8 ((h.below h9).below h8) (Wy hc))
 unfold av at CP |-
 clear h hc hr m1 m2 n1 n2 L1 L2;generalize W7 a (ba (w1 r)) (Dk.val (w1 (w2 r))) (Dk.val (w2 (w2 r)))=T9 at*;generalize WO a (ba (w1 r)) (Dk.val (w1 (w2 r))) (Dk.val (w2 (w2 r)))=E9 at*;generalize Dk.val (w1 (w2 r))=i9 at*;generalize Dk.val (w2 (w2 r))=k9 at*;generalize ba (w2 (w2 r))=t9 at*;generalize ba (w1 (w2 r))=d9 at*;generalize ba (w2 r)=r9 at*;generalize ba (w1 r)=s9 at*;generalize ba r=q9 at*;generalize a.aa.length=D at*;generalize a.files.length=N at*;go_enter func29,ntmps29
 go_wp2_with fail
 refine mo (C1 _) λu1 G1=>?_
 have B1:=ag B0 G1;have X1:=XA.next G1;go_wp2_with fail
 refine mo (C2 _) λu2 G2=>?_
 have B2:=ag B1 G2;have X2:=X1.next G2;go_wp2_with fail
 refine mo (C3 _) λu3 G3=>?_
 have B3:=ag B2 G3;have X3:=X2.next G3;go_wp2_with fail
 refine mo (C4 _) λu4 G4=>?_
 have B4:=ag B3 G4;have X4:=X3.next G4;clear B0 B1 B2 B3 G1 G2 G3 G4 XA X1 X2 X3 C1 C2;go_wp2_with fail
 have k0:=cell_regrown X4.c0;have k1:=cell_regrown X4.c1;have cA:∀d os,Calls prog 46 #[.string d9] (grow (redrawn u4 d) os) λe w9=>e=.returned (.int .i64 (i9:Nat))/\∃p:Regrown,w9=grow (redrawn u4 p.d) p.os:=λd os=>Calls.regrown_of (C3 _)
 have cB:∀d os,Calls prog 46 #[.string t9] (grow (redrawn u4 d) os) λe w9=>e=.returned (.int .i64 (k9:Nat))/\∃p:Regrown,w9=grow (redrawn u4 p.d) p.os:=λd os=>Calls.regrown_of (C4 _)
 have cC:=λd os=>Calls.regrown_of (CP.out _ (ag B4 (below_regrown u4 d os)))
 clear C3 C4 CP;refine wp_region_quiet_below (by kernel_rfl) (by kernel_rfl) ?_
 iterate 4 (quiet_step (exact cA _ _))
 iterate 2 (quiet_step (exact cB _ _))
 repeat (quiet_step (exact cC _ _))
 refine wpQuiet_nil ?_;intro _ tD;obtain⟨⟨dq,osq⟩,hw8⟩:=tD;subst hw8;have B5:=ag B4 (below_regrown u4 dq osq);clear cA cB cC k0 k1;generalize grow (redrawn u4 dq) osq=u5 at*;go_wp2_with fail
 go_ret2
 exact⟨rfl,B5⟩
open Go.Sort (grow)
open Dk (ba)
theorem Uh(ad af:Option Addr)(cd cf:Nat)(a:Ar.A)(w:World)(h:bo w ad af a)(hc:Vz a=0) :
 CB 24 #[av ad cd af cf a] w (.string (ba (bP a))):=by
 have cy:=Za λw' (h9:ae w w') k (hk:k<a.files.length)=>(h.fs.below h9).at hk
 have HP:=Za λk (hk:k<a.files.length)=>aaO hc hk
 have HZ:=Za λk=>Dk.lj hc k
 have HS:=Za λk (hk:k<a.files.length)=>Dk.jb hk
 have qO:=Za λ(h9:a.files.length=0)=>aaP h9
 have ee:=Za λ(h9:a.files.length≠0)=>aaQ h9
 have hm:=(Zj.1 (VV.1 hc).1).2.1;have B0:=Zb w (.cells #[.slice ad a.aa.length cd,.slice af a.files.length cf] 35 (0,0));have XA:=Bx.new w (.slice ad a.aa.length cd) (.slice af a.files.length cf);generalize ba (bP a)=R at*;have HB:Hid (Xa a.files 0=⟨#[]⟩):=rfl;clear h hc;unfold av
 obtain⟨N,hN⟩:∃N,a.files.length=N:=⟨_,rfl⟩
 simp only[hN]at cy HP HS qO ee;rw[hN]at XA B0 hm |-
 generalize a.aa.length=D at*;clear hN;have hm':(N:Int)<=12:=by omega
 go_enter func24,ntmps24
 go_wp2_with fail
 generalize (w.alloc (.cells #[.slice ad D cd,.slice af N cf] 35 (0,0)))=w1 at*;go_loopw [3,4] (λs i wr=>∃k:Nat,k<=N/\i=.int .i64 k/\s=.string (Xa a.files k)/\ae w wr/\Bx wr w.heap.size (.slice ad D cd) (.slice af N cf)) (λ_ i _=>N-(intOf i).toNat)
 case atStart=>exact⟨0,by omega,rfl,by rw[HB.out],B0,XA⟩
 case round =>
  obtain⟨k,hk2,rfl,rfl,B1,X1⟩:=hrel;have c1:=X1.c1;have hs6:=HZ.out k;by_cases hlt:k<N
  ·have d1:=al (by omega:(k:Int)<(N:Int));have d1':=al (by omega:k<N);have hki:(k:Int)<(N:Int):=by omega
   obtain⟨b,off,rfl,hb,F⟩:=cy.out wr B1 k hlt;obtain⟨n,hn,hn2,hnm,hbk⟩:=HP.out k hlt;have HS2:Hid (_=_):=HS.out k hlt;rw[hn,Int.toNat_natCast]at HS2;obtain⟨f0,f1,f2,f3,f4⟩:=F;rw[hn]at f2;have CA:=λw'=>tF n w' hn2
   have CB:∀w',CB 23 #[.int .i64 ((Nm a.files k).blk.size:Nat)] w' (.string (ba (VJ (Nm a.files k).blk.size))):=λw'=>tF _ w' (by omega)
   have z1:(ba (VJ n)).size<=16:=by rw[VF];exact XW hn2
   have z2:(ba (VJ (Nm a.files k).blk.size)).size<=16:=by rw[VF];exact XW (by omega)
   generalize ba (VJ n)=D1 at*;generalize ba (VJ (Nm a.files k).blk.size)=D2 at*;generalize (Nm a.files k).name=nm at*;generalize (Nm a.files k).blk=bk at*;generalize (Nm a.files k).dict=x1 at*;generalize (Nm a.files k).sum=x3 at*;clear hn;have G1:=Zb wr (.cells #[.string nm,.int .i64 x1,.int .i64 n,.int .i64 x3,.string bk] 73 (0,0));have F9:=FB.new wr 73 (.string nm) (.int .i64 x1) (.int .i64 n) (.int .i64 x3) (.string bk);have g0:=F9.c 0 (by omega);have g2:=F9.c 2 (by omega);have g4:=F9.c 4 (by omega);simp only[reduceIte,Nat.reduceEqDiff]at g0 g2 g4;have B2:=ag B1 G1;have X2:=X1.next G1;by_cases h0:k=0
   ·rw[ax h0]at HS2;have d2:=dF (by omega:¬((0:Int)<(k:Int)));have eJ:=dF (by omega:¬(0<k));clear h0;generalize hS0:Xa a.files k=S0 at*;clear hS0 HS cy HP HZ qO ee;go_wp2_with fail
    generalize (wr.alloc (.cells #[.string nm,.int .i64 x1,.int .i64 n,.int .i64 x3,.string bk] 73 (0,0)))=wa at*;have k0:=cell_regrown g0;have k2:=cell_regrown g2;have k4:=cell_regrown g4;have cA:∀d os,Calls prog 23 #[.int .i64 n] (grow (redrawn wa d) os) λe w9=>e=.returned (.string D1)/\∃p:Regrown,w9=grow (redrawn wa p.d) p.os:=λd os=>Calls.regrown_of (CA _)
    have cB:∀d os,Calls prog 23 #[.int .i64 (bk.size:Nat)] (grow (redrawn wa d) os) λe w9=>e=.returned (.string D2)/\∃p:Regrown,w9=grow (redrawn wa p.d) p.os:=λd os=>Calls.regrown_of (CB _)
    have n1:¬9223372036854775807<S0.size+nm.size:=by omega
    have n2:¬9223372036854775807<S0.size+nm.size+1:=by omega
    have n3:¬9223372036854775807<S0.size+nm.size+1+D1.size:=by omega
    have n4:¬9223372036854775807<S0.size+nm.size+1+D1.size+1:=by omega
    have n5:¬9223372036854775807<S0.size+nm.size+1+D1.size+1+D2.size:=by omega
    refine wp_region_quiet_below (by kernel_rfl) (by kernel_rfl) ?_
    iterate 8 (quiet_step (exact cA _ _))
    repeat (quiet_step (exact cB _ _))
    refine wpQuiet_nil ?_;intro _ hw';obtain⟨⟨dq,osq⟩,hw''⟩:=hw';subst hw'';have G3:=below_regrown wa dq osq;have B3:=ag B2 G3;have X3:=X2.next G3;clear cA cB k0 k2 k4 CA CB g0 g2 g4 n1 n2 n3 n4 n5 F9;generalize grow (redrawn wa dq) osq=wq at*;go_wp2_with fail
    go_roundw
    case rel=>exact⟨k+1,by omega,by go_num,by rw[HS2.out],B3,X3⟩
    case measure=>simp[intOf];omega
   ·rw[ab h0]at HS2;have d2:=al (by omega:(0:Int)<(k:Int));have eJ:=al (by omega:0<k);have m1:¬9223372036854775807<(Xa a.files k).size+1:=by omega
    generalize hS0:Xa a.files k=S0 at*;clear hS0 HS cy HP HZ qO ee;go_wp2_with fail
    generalize (wr.alloc (.cells #[.string nm,.int .i64 x1,.int .i64 n,.int .i64 x3,.string bk] 73 (0,0)))=wa at*;have j5:(S0++(⟨#[32]⟩:ByteArray)).size=S0.size+1:=ByteArray.size_append;generalize S0++(⟨#[32]⟩:ByteArray)=S1 at*;have hs7:S1.size<=601:=by omega
    clear j5;have k0:=cell_regrown g0;have k2:=cell_regrown g2;have k4:=cell_regrown g4;have cA:∀d os,Calls prog 23 #[.int .i64 n] (grow (redrawn wa d) os) λe w9=>e=.returned (.string D1)/\∃p:Regrown,w9=grow (redrawn wa p.d) p.os:=λd os=>Calls.regrown_of (CA _)
    have cB:∀d os,Calls prog 23 #[.int .i64 (bk.size:Nat)] (grow (redrawn wa d) os) λe w9=>e=.returned (.string D2)/\∃p:Regrown,w9=grow (redrawn wa p.d) p.os:=λd os=>Calls.regrown_of (CB _)
    have n1:¬9223372036854775807<S1.size+nm.size:=by omega
    have n2:¬9223372036854775807<S1.size+nm.size+1:=by omega
    have n3:¬9223372036854775807<S1.size+nm.size+1+D1.size:=by omega
    have n4:¬9223372036854775807<S1.size+nm.size+1+D1.size+1:=by omega
    have n5:¬9223372036854775807<S1.size+nm.size+1+D1.size+1+D2.size:=by omega
    refine wp_region_quiet_below (by kernel_rfl) (by kernel_rfl) ?_
    iterate 8 (quiet_step (exact cA _ _))
    repeat (quiet_step (exact cB _ _))
    refine wpQuiet_nil ?_;intro _ hw';obtain⟨⟨dq,osq⟩,hw''⟩:=hw';subst hw'';have G3:=below_regrown wa dq osq;have B3:=ag B2 G3;have X3:=X2.next G3;clear cA cB k0 k2 k4 CA CB g0 g2 g4 n1 n2 n3 n4 n5 F9;generalize grow (redrawn wa dq) osq=wq at*;go_wp2_with fail
    go_roundw
    case rel=>exact⟨k+1,by omega,by go_num,by rw[HS2.out],B3,X3⟩
    case measure=>simp[intOf];omega
  ·obtain rfl:k=N:=by omega
   have d1:decide ((k:Int)<(k:Int))=false:=by simp
   have d1':decide (k<k)=false:=by simp
   clear HS cy HP HZ;by_cases h0:k=0
   ·subst h0;have hR:=qO.out rfl;subst hR;have e0:Xa a.files 0=⟨#[]⟩:=rfl;rw[e0];clear qO ee;go_wp2_with fail
    go_ret
    exact⟨rfl,B1⟩
   ·obtain⟨hR,hz⟩:=ee.out h0;subst hR;have hne:=lL (b:=Xa a.files k) (by omega);have hne2:((Xa a.files k).toList == [])=false:=by rw[<-hne];cases (Xa a.files k).toList<;>rfl
    clear qO ee;go_wp2_with fail
    go_ret
    exact⟨rfl,B1⟩
theorem Bu(s:ByteArray)(w:World)(h:s.size<=2147483647) :
 CB 84 #[.string s] w (.string ⟨(Im.tb s).toArray⟩):=by
 have h2:(s.size:Int)<=2147483647:=by omega
 have hc:=ZF s.size s.size w (by omega) (by omega) (by omega);rw[Int.toNat_natCast]at hc;have hl:=V3 s.size (by omega)
 have HT:Hid ((⟨(Im.tb s).toArray⟩:ByteArray)=⟨(VB s.size).toArray⟩++s):=by
  show _=_;apply ZN;simp[Im.tb]
 rw[HT.out];clear HT;go_enter func84,ntmps84
 go_wp2_with fail
 refine mo hc λw' G=>?_
 clear hc;generalize hL:VB s.size=L at*;have HL:=Za hL;clear hL;go_wp2_with fail
 go_ret
 exact⟨by rw[HL.out];rfl,G⟩
end Go.Proofs.YtbjbjbpgmojcbacGreatDoor
