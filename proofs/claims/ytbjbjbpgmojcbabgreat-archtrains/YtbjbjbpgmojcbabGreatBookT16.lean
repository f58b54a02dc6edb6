/- A part of the proof: what it leans on. -/
import Derived.OrdersHeld
import Derived.Deep.RegionHeld3
import Derived.Deep.RegionLaw
import Derived.Deep.Slices
import Derived.SizedLaws
import Derived.Carry
import Derived.Test.YtbjbjbpgmojcbabGreatBookT08
import Derived.Test.YtbjbjbpgmojcbabGreatBookT11
import Derived.Test.YtbjbjbpgmojcbabGreatBookT12
import Derived.Test.YtbjbjbpgmojcbabGreatBookT13
import Derived.Test.YtbjbjbpgmojcbabGreatBookT15
set_option maxRecDepth 8000
set_option maxHeartbeats 8000000
namespace Go.Proofs.YtbjbjbpgmojcbabGreat
open Go.RowKit Go.Maps Go.WideMaps
theorem trainOf_some (xs:List ByteArray) (size:Int) (b off cap:Nat) (w:World) (hx:Tr.TxAt w b off xs) (hn:xs.length<=12) (hB:∀ i,(Tr.xa xs i).size<=512) (h0:0<=size) (h1:size<=256) :
 Calls Tryz.prog 70 #[.slice (some ⟨b,off,none⟩) xs.length cap,.int .i64 size] w fun e w'=>e=.returned (.string (Tr.trn xs size.toNat))/\Below w.heap.size w w':=by
 have HX:Hid (∀ w',Below w.heap.size w w'->∀ i,i<xs.length->w'.cell? ⟨b,off+i,none⟩=some (.string (Tr.xa xs i))):=fun w' h=>(hx.below h).2
 have HB:Hid (∀ i,(Tr.xa xs i).size<=512):=hB
 clear hB hx
 have hn':(xs.length:Int)<=12:=by omega
 have hmm:=@run_makeMap Tryz.prog
 obtain ⟨R,hR⟩:∃ R,Tr.trn xs size.toNat=R:=⟨_,rfl⟩
 rw [hR]
 have HR0:Hid (Tr.tro xs size.toNat 65 ⟨#[]⟩=R):=hR
 clear hR
 go_enter Tryz.func70,Tryz.ntmps70
 go_wp2_with fail
 go_loopw [6] (fun i wr=>∃ k:Nat,k<=xs.length/\i=.int .i64 k/\Tr.CM wr w.heap.size (512*k) (fun q=>Tr.ctK xs q k)/\Below w.heap.size w wr) (fun i _=>xs.length - (intOf i).toNat)
 case atStart=>exact ⟨0,by omega,rfl,Tr.CM.made _,(Below.refl _ _).alloc (Nat.le_refl _) _⟩
 case round =>
  obtain ⟨k,hk2,rfl,hC,B1⟩:=hrel
  by_cases hlt:k<xs.length
  · have d1:decide ((k:Int)<(xs.length:Int))=true:=by simp;omega
    have d1':decide (k<xs.length)=true:=by simp;omega
    have hki:(k:Int)<(xs.length:Int):=by omega
    have hXs:=HB.out k
    obtain ⟨X,hX⟩:∃ X,Tr.xa xs k=X:=⟨_,rfl⟩
    rw [hX] at hXs
    have HXk:Hid (Tr.xa xs k=X):=hX
    clear hX
    have hwb:w.heap.size<wr.heap.size:=by obtain ⟨D,h,_⟩:=hC;exact h.lt
    have hC0:=hC.below ((Below.refl wr.heap.size wr).alloc (Nat.le_refl _) (.map #[] 0))
    have B0:=B1.alloc B1.size (.map #[] 0)
    clear hC B1
    go_wp2_with fail
    have HS:Hid (∀ w',Below w.heap.size w w'->w'.cell? ⟨b,off+k,none⟩=some (.string X)):=fun w' h=>by rw [<-HXk.out];exact HX.out w' h k hlt
    have hsm:=Tr.CM.made wr
    generalize wr.heap.size=sb at *
    go_loopw [8] (fun i wr2=>∃ j:Nat,j<=X.size - 3/\i=.int .i64 j/\Tr.CM wr2 w.heap.size (512*k+j) (Tr.cn xs k j)/\Tr.CM wr2 sb j (fun q=>Tr.snK X q j)/\Below w.heap.size w wr2) (fun i _=>X.size - 3 - (intOf i).toNat)
    case atStart=>exact ⟨0,by omega,rfl,hC0.same (by omega) (fun q _=>(Tr.cn_zero xs k q).symm),hsm,B0⟩
    case round =>
     clear hC0 hsm B0
     obtain ⟨j,hj2,rfl,hC,hS,B1⟩:=hrel
     have c1:=HS.out _ B1
     by_cases hjl:j<X.size - 3
     · have e1:decide ((j:Int)+4<=(X.size:Int))=true:=decide_eq_true (by omega)
       have hji:(j:Int)+4<=(X.size:Int):=by omega
       have hjn:j+4<=X.size:=by omega
       have hj5:(j:Int)<=512:=by omega
       obtain ⟨P,hP⟩:∃ P,X.extract j (j+4)=P:=⟨_,rfl⟩
       have HP:Hid (Tr.pc X j=P):=hP
       have hP4:Hid (P.size=4):=by show _=_;rw [<-HP.out];exact Tr.pc_size hjl
       have hkey:keyOf Tryz.prog 9 (.string (X.extract j (j+4)))=some (Tr.kl P):=by rw [hP];exact keyOf_string_mk Tryz.underlying9 (by rw [hP4.out];decide)
       clear hP
       have HZ:=Tr.snK_zero (t:=X) hP4.out (j:=j) (by omega)
       have hsl:=Tr.snK_le X P j
       have hsl2:Hid (Tr.snK X P (j+1)=Tr.snK X P j+1):=by have:=Tr.snK_own X j;rw [HP.out] at this;exact this
       have hsl3:Hid (∀ q:ByteArray,q.size=4->q ≠ P->Tr.snK X q (j+1)=Tr.snK X q j):=fun q _ hne=>Tr.snK_other (by rw [HP.out];exact hne)
       obtain ⟨E,hS0,hE2,hE3,hE4⟩:=hS
       have hatS:=Tr.CM.at_f hE3 P hP4.out
       obtain ⟨N,hN⟩:∃ N,Tr.snK X P j=N:=⟨_,rfl⟩
       simp only [hN] at hatS
       rw [hN] at HZ hsl
       have HN:Hid (Tr.snK X P j=N):=hN
       have hNi:(N:Int)<=512:=by omega
       have wf1:(Lit.int .i64 ((N:Int)+1)).wf=true:=WalkArith.wf_i64 (by omega)
       clear hN hsl
       by_cases hz:N=0
       · subst hz
         have hst:=HZ.1 rfl
         have HN2:Hid (Tr.cn xs k (j+1) P=Tr.cn xs k j P+1):=by
          have:=Tr.cn_new (xs:=xs) (k:=k) (i:=j) (by rw [HXk.out];exact hjl) (by rw [HXk.out,HP.out];exact hst)
          rw [HXk.out,HP.out] at this
          exact this
         have HO:Hid (∀ q:ByteArray,q.size=4->q ≠ P->Tr.cn xs k (j+1) q=Tr.cn xs k j q):=fun q hq hne=>Tr.cn_other hq (by rw [HXk.out,HP.out];exact hne)
         obtain ⟨D,hown,hD2,hD3,hD4⟩:=hC
         have hatC:=Tr.CM.at_f hD3 P hP4.out
         have hcl:=Tr.cn_le xs k j P
         obtain ⟨C,hCC⟩:∃ C,Tr.cn xs k j P=C:=⟨_,rfl⟩
         rw [hCC] at hatC hcl
         have HCC:Hid (Tr.cn xs k j P=C):=hCC
         have hCi:(C:Int)<=13:=by omega
         have wf2:(Lit.int .i64 ((C:Int)+1)).wf=true:=WalkArith.wf_i64 (by omega)
         clear hCC hcl hst HZ
         go_wp2_with (first
          | (at_lookup;refine wpList_lookup_own_int _ rfl _ _ 140 rfl 9 3 .i64 keyS Tryz.underlying140 Tryz.underlying3 (zeroI _) sb j _ rfl hS1 _ _ rfl hkey ?_;intro c hat hwc;obtain rfl:=hatS c hat;clear hat hwc)
          | (at_lookup;refine wpList_lookup_own_int _ rfl _ _ 140 rfl 9 3 .i64 keyS Tryz.underlying140 Tryz.underlying3 (zeroI _) sb j _ rfl hS0 _ _ rfl hkey ?_;intro c hat hwc;obtain rfl:=hatS c hat;clear hat hwc)
          | (at_lookup;refine wpList_lookup_own_int _ rfl _ _ 140 rfl 9 3 .i64 keyS Tryz.underlying140 Tryz.underlying3 (zeroI _) w.heap.size (512*k+j) _ rfl hown _ _ rfl hkey ?_;intro c hat hwc;obtain rfl:=hatC c hat;clear hat hwc)
          | (at_mapUpdate;refine wpList_mapUpdate_own _ rfl _ _ _ 140 rfl 9 3 keyS Tryz.underlying140 _ w.heap.size (512*k+j) _ rfl hown (by unfold maxLen;omega) _ _ _ rfl rfl hkey _ [] (plainElem_int Tryz.underlying3 wf2) ?_;intro w1 hown1 hgrow1;have hS1:=hS0.kept hgrow1 (by simp;omega);clear hS0)
          | (at_mapUpdate;refine wpList_mapUpdate_own _ rfl _ _ _ 140 rfl 9 3 keyS Tryz.underlying140 _ sb j _ rfl hS1 (by unfold maxLen;omega) _ _ _ rfl rfl hkey _ [] (plainElem_int Tryz.underlying3 wf1) ?_;intro w2 hS2 hgrow2;have hown2:=hown1.kept hgrow2 (by simp;omega);clear hown1 hS1)
          | fail)
         have hC2:Tr.CM w2 w.heap.size (512*k+(j+1)) (Tr.cn xs k (j+1)):=Tr.CM.put hP4.out hD2 hD3 hD4 (by rw [HN2.out,HCC.out];exact hown2) HN2.out HO.out
         have hSS2:Tr.CM w2 sb (j+1) (fun q=>Tr.snK X q (j+1)):=Tr.CM.put hP4.out hE2 hE3 hE4 (by show w2.ownsMap _ _ _ _ _ (E.put _ (Tr.i64 ((Tr.snK X P (j+1):Nat):Int)));rw [hsl2.out,HN.out];exact hS2) hsl2.out hsl3.out
         have B2:=(B1.grown hgrow1 B1.size (fun j hj=>by cases hj;exact Nat.le_refl _)).grown hgrow2 (by have:=hgrow1.size;have:=B1.size;omega) (fun j hj=>by cases hj;omega)
         clear hown2 hS2 hgrow1 hgrow2 B1 hown
         go_roundw
         case rel=>exact ⟨j+1,by omega,by go_num,hC2,hSS2,B2⟩
         case measure=>simp [intOf];omega
       · have hst:Tr.stK P X j=true:=by
          cases h9:Tr.stK P X j with
          | true=>rfl
          | false=>exact absurd (HZ.2 h9) hz
         have HN2:Hid (∀ q:ByteArray,q.size=4->Tr.cn xs k j q=Tr.cn xs k (j+1) q):=fun q hq=>(Tr.cn_old (by rw [HXk.out,HP.out];exact hst) hq).symm
         have hz':¬ (N:Int)=0:=by omega
         have e2:decide ((N:Int)=0)=false:=decide_eq_false hz'
         have e3:((N:Int) == 0)=false:=by simpa using hz'
         clear hst HZ
         go_wp2_with (first
          | (at_lookup;refine wpList_lookup_own_int _ rfl _ _ 140 rfl 9 3 .i64 keyS Tryz.underlying140 Tryz.underlying3 (zeroI _) sb j _ rfl hS0 _ _ rfl hkey ?_;intro c hat hwc;obtain rfl:=hatS c hat;clear hat hwc)
          | (at_mapUpdate;refine wpList_mapUpdate_own _ rfl _ _ _ 140 rfl 9 3 keyS Tryz.underlying140 _ sb j _ rfl hS0 (by unfold maxLen;omega) _ _ _ rfl rfl hkey _ [] (plainElem_int Tryz.underlying3 wf1) ?_;intro w2 hS2 hgrow2)
          | fail)
         have hC2:Tr.CM w2 w.heap.size (512*k+(j+1)) (Tr.cn xs k (j+1)):=(hC.kept' hgrow2 (by simp;omega)).same (by omega) HN2.out
         have hSS2:Tr.CM w2 sb (j+1) (fun q=>Tr.snK X q (j+1)):=Tr.CM.put hP4.out hE2 hE3 hE4 (by show w2.ownsMap _ _ _ _ _ (E.put _ (Tr.i64 ((Tr.snK X P (j+1):Nat):Int)));rw [hsl2.out,HN.out];exact hS2) hsl2.out hsl3.out
         have B2:=B1.grown hgrow2 B1.size (fun j hj=>by cases hj;omega)
         clear hS0 hS2 hgrow2 B1 hC
         go_roundw
         case rel=>exact ⟨j+1,by omega,by go_num,hC2,hSS2,B2⟩
         case measure=>simp [intOf];omega
     · have e1:decide ((j:Int)+4<=(X.size:Int))=false:=decide_eq_false (by omega)
       have hj5:(j:Int)<=512:=by omega
       have hC2:Tr.CM wr w.heap.size (512*(k+1)) (fun q=>Tr.ctK xs q (k+1)):=hC.same (by omega) (fun q hq=>Tr.cn_end hq (by rw [HXk.out];omega))
       clear hC hS
       go_wp2_with fail
       go_roundw
       case rel=>exact ⟨k+1,by omega,by go_num,hC2,B1⟩
       case measure=>simp [intOf];omega
  · obtain rfl:k=xs.length:=by omega
    have d1:decide ((xs.length:Int)<(xs.length:Int))=false:=by simp
    have hC0:Tr.CM wr w.heap.size 6144 (Tr.ct xs):=hC.same (by omega) (fun _ _=>rfl)
    clear hC hmm hlt hk2
    go_wp2_with fail
    go_loopw [10] (fun dv wr=>∃ (d:ByteArray) (f:Nat),dv=.string d/\Hid (Tr.tro xs size.toNat f d=R)/\Hid (4*f+d.size=260)/\d.size<=256/\Tr.CM wr w.heap.size 6144 (Tr.ct xs)/\Below w.heap.size w wr) (fun dv _=>300 - Tr.bsz dv)
    case atStart=>exact ⟨⟨#[]⟩,65,rfl,HR0,rfl,by decide,hC0,B1⟩
    case round =>
     clear hC0 B1 HR0
     obtain ⟨d,f,rfl,HRd,Hf,hd,hC0,B1⟩:=hrel
     by_cases hfit:(d.size:Int)+4<=size
     · have e1:decide ((d.size:Int)+4<=size)=true:=decide_eq_true hfit
       go_wp2_with fail
       go_loopw [11,12,13] (fun bv cv iv wr2=>∃ (B:ByteArray) (C k:Nat),k<=xs.length/\iv=.int .i64 k/\bv=.string B/\cv=.int .i64 C/\Hid (Tr.bsT xs d k=(B,C))/\B.size<=4/\C<=100/\Tr.CM wr2 w.heap.size 6144 (Tr.ct xs)/\Below w.heap.size w wr2) (fun _ _ iv _=>xs.length - (intOf iv).toNat)
       case atStart=>exact ⟨⟨#[]⟩,1,0,by omega,rfl,rfl,rfl,rfl,by decide,by omega,hC0,B1⟩
       case round =>
        clear hC0 B1
        obtain ⟨B0,C0,k,hk2,rfl,rfl,rfl,HT,hB0,hC00,hC0,B1⟩:=hrel
        by_cases hlt:k<xs.length
        · have d1:decide ((k:Int)<(xs.length:Int))=true:=by simp;omega
          have d1':decide (k<xs.length)=true:=by simp;omega
          have hki:(k:Int)<(xs.length:Int):=by omega
          have hXs:=HB.out k
          obtain ⟨X,hX⟩:∃ X,Tr.xa xs k=X:=⟨_,rfl⟩
          rw [hX] at hXs
          have HXk:Hid (Tr.xa xs k=X):=hX
          clear hX
          have HS:Hid (∀ w',Below w.heap.size w w'->w'.cell? ⟨b,off+k,none⟩=some (.string X)):=fun w' h=>by rw [<-HXk.out];exact HX.out w' h k hlt
          go_wp2_with fail
          go_loopw [11,12,14] (fun bv cv iv wr2=>∃ (B:ByteArray) (C j:Nat),j<=X.size - 3/\iv=.int .i64 j/\bv=.string B/\cv=.int .i64 C/\Hid (Tr.bsR xs d X (B0,C0) j=(B,C))/\B.size<=4/\C<=100/\Tr.CM wr2 w.heap.size 6144 (Tr.ct xs)/\Below w.heap.size w wr2) (fun _ _ iv _=>X.size - 3 - (intOf iv).toNat)
          case atStart=>exact ⟨B0,C0,0,by omega,rfl,rfl,rfl,rfl,hB0,hC00,hC0,B1⟩
          case round =>
           clear hC0 B1
           obtain ⟨B,C,j,hj2,rfl,rfl,rfl,HL,hB4,hC1,hC0,B2⟩:=hrel
           have c1:=HS.out _ B2
           by_cases hjl:j<X.size - 3
           · have e2:decide ((j:Int)+4<=(X.size:Int))=true:=decide_eq_true (by omega)
             have hji:(j:Int)+4<=(X.size:Int):=by omega
             have hjn:j+4<=X.size:=by omega
             have hj5:(j:Int)<=512:=by omega
             obtain ⟨P,hP⟩:∃ P,X.extract j (j+4)=P:=⟨_,rfl⟩
             have HP:Hid (Tr.pc X j=P):=hP
             have hP4:Hid (P.size=4):=by show _=_;rw [<-HP.out];exact Tr.pc_size hjl
             have hkey:keyOf Tryz.prog 9 (.string (X.extract j (j+4)))=some (Tr.kl P):=by rw [hP];exact keyOf_string_mk Tryz.underlying9 (by rw [hP4.out];decide)
             have hC9:Hid (Tr.CM wr w.heap.size 6144 (Tr.ct xs)):=hC0
             obtain ⟨D,hown,hD2,hD3,hD4⟩:=hC0
             have hatC:=Tr.CM.at_f hD3 P hP4.out
             have hcl:=Tr.ctK_le xs P xs.length
             change Tr.ct xs P<=_ at hcl
             have c2:∀ w,Calls Tryz.prog 110 #[.string (X.extract j (j+4)),.string d] w fun e w'=>e=.returned (.bool (Tr.st P d))/\Below w.heap.size w w':=fun w=>by rw [hP];exact stands_any P d w (by rw [hP4.out];omega) (by omega)
             obtain ⟨n,hnn⟩:∃ n,Tr.ct xs P=n:=⟨_,rfl⟩
             rw [hnn] at hatC hcl
             have HNN:Hid (Tr.ct xs P=n):=hnn
             have hni:(n:Int)<=12:=by omega
             have hCi:(C:Int)<=100:=by omega
             have HBL:Hid (Tr.bl P B=Op.bytesLess (X.extract j (j+4)).toList B.toList):=by show _=_;rw [hP];rfl
             clear hnn hP hD2 hD3 hD4
             by_cases hA:C<n
             · have hA':(C:Int)<(n:Int):=by omega
               have dA:decide ((C:Int)<(n:Int))=true:=decide_eq_true hA'
               cases hs:Tr.st P d with
               | false =>
                have HBS:Hid (Tr.bs xs d (B,C) P=(P,n)):=by show _=_;rw [Tr.bs_yes (.inl (by rw [HNN.out];exact hA)) hs,HNN.out]
                rw [hs] at c2
                clear hs
                go_wp2_with (first
                 | (at_lookup;refine wpList_lookup_own_int _ rfl _ _ 140 rfl 9 3 .i64 keyS Tryz.underlying140 Tryz.underlying3 (zeroI _) w.heap.size 6144 _ rfl hown _ _ rfl hkey ?_;intro c hat hwc;obtain rfl:=hatC c hat;clear hat hwc)
                 | fail)
                refine (c2 _).mono ?_
                rintro e w2 ⟨rfl,G⟩
                have B3:=bch B2 G (Nat.le_refl _)
                have hC2:Tr.CM w2 w.heap.size 6144 (Tr.ct xs):=Tr.CM.below hC9.out G
                go_wp2_with fail
                go_roundw
                case rel=>exact ⟨P,n,j+1,by omega,by go_num,by rw [show X.extract j (j+4)=P from HP.out],rfl,by show Tr.bsR _ _ _ _ (j+1)=_;rw [Tr.bsR,HL.out,HP.out,HBS.out],by rw [hP4.out];omega,by omega,hC2,B3⟩
                case measure=>simp [intOf];omega
               | true =>
                have HBS:Hid (Tr.bs xs d (B,C) P=(B,C)):=Tr.bs_no (.inr hs)
                rw [hs] at c2
                clear hs
                go_wp2_with (first
                 | (at_lookup;refine wpList_lookup_own_int _ rfl _ _ 140 rfl 9 3 .i64 keyS Tryz.underlying140 Tryz.underlying3 (zeroI _) w.heap.size 6144 _ rfl hown _ _ rfl hkey ?_;intro c hat hwc;obtain rfl:=hatC c hat;clear hat hwc)
                 | fail)
                refine (c2 _).mono ?_
                rintro e w2 ⟨rfl,G⟩
                have B3:=bch B2 G (Nat.le_refl _)
                have hC2:Tr.CM w2 w.heap.size 6144 (Tr.ct xs):=Tr.CM.below hC9.out G
                go_wp2_with fail
                go_roundw
                case rel=>exact ⟨B,C,j+1,by omega,by go_num,rfl,rfl,by show Tr.bsR _ _ _ _ (j+1)=_;rw [Tr.bsR,HL.out,HP.out,HBS.out],hB4,hC1,hC2,B3⟩
                case measure=>simp [intOf];omega
             · have hA':¬ (C:Int)<(n:Int):=by omega
               have dA:decide ((C:Int)<(n:Int))=false:=decide_eq_false hA'
               by_cases hE:n=C
               · subst hE
                 by_cases h2:1<n
                 · have h2':(1:Int)<(n:Int):=by omega
                   have d2:decide ((1:Int)<(n:Int))=true:=decide_eq_true h2'
                   cases hbl:Tr.bl P B with
                   | true =>
                    have hbl2:=hbl
                    rw [HBL.out] at hbl2
                    cases hs:Tr.st P d with
                    | false =>
                     have HBS:Hid (Tr.bs xs d (B,n) P=(P,n)):=by show _=_;rw [Tr.bs_yes (.inr ⟨HNN.out,by rw [HNN.out];exact h2,hbl⟩) hs,HNN.out]
                     rw [hs] at c2
                     clear hs hbl
                     go_wp2_with (first
                      | (at_lookup;refine wpList_lookup_own_int _ rfl _ _ 140 rfl 9 3 .i64 keyS Tryz.underlying140 Tryz.underlying3 (zeroI _) w.heap.size 6144 _ rfl hown _ _ rfl hkey ?_;intro c hat hwc;obtain rfl:=hatC c hat;clear hat hwc)
                      | fail)
                     refine (c2 _).mono ?_
                     rintro e w2 ⟨rfl,G⟩
                     have B3:=bch B2 G (Nat.le_refl _)
                     have hC2:Tr.CM w2 w.heap.size 6144 (Tr.ct xs):=Tr.CM.below hC9.out G
                     go_wp2_with fail
                     go_roundw
                     case rel=>exact ⟨P,n,j+1,by omega,by go_num,by rw [show X.extract j (j+4)=P from HP.out],rfl,by show Tr.bsR _ _ _ _ (j+1)=_;rw [Tr.bsR,HL.out,HP.out,HBS.out],by rw [hP4.out];omega,by omega,hC2,B3⟩
                     case measure=>simp [intOf];omega
                    | true =>
                     have HBS:Hid (Tr.bs xs d (B,n) P=(B,n)):=Tr.bs_no (.inr hs)
                     rw [hs] at c2
                     clear hs hbl
                     go_wp2_with (first
                      | (at_lookup;refine wpList_lookup_own_int _ rfl _ _ 140 rfl 9 3 .i64 keyS Tryz.underlying140 Tryz.underlying3 (zeroI _) w.heap.size 6144 _ rfl hown _ _ rfl hkey ?_;intro c hat hwc;obtain rfl:=hatC c hat;clear hat hwc)
                      | fail)
                     refine (c2 _).mono ?_
                     rintro e w2 ⟨rfl,G⟩
                     have B3:=bch B2 G (Nat.le_refl _)
                     have hC2:Tr.CM w2 w.heap.size 6144 (Tr.ct xs):=Tr.CM.below hC9.out G
                     go_wp2_with fail
                     go_roundw
                     case rel=>exact ⟨B,n,j+1,by omega,by go_num,rfl,rfl,by show Tr.bsR _ _ _ _ (j+1)=_;rw [Tr.bsR,HL.out,HP.out,HBS.out],hB4,hC1,hC2,B3⟩
                     case measure=>simp [intOf];omega
                   | false =>
                    have HBS:Hid (Tr.bs xs d (B,n) P=(B,n)):=Tr.bs_no (.inl (by rw [HNN.out,hbl];simp))
                    rw [HBL.out] at hbl
                    clear c2
                    go_wp2_with (first
                     | (at_lookup;refine wpList_lookup_own_int _ rfl _ _ 140 rfl 9 3 .i64 keyS Tryz.underlying140 Tryz.underlying3 (zeroI _) w.heap.size 6144 _ rfl hown _ _ rfl hkey ?_;intro c hat hwc;obtain rfl:=hatC c hat;clear hat hwc)
                     | fail)
                    go_roundw
                    case rel=>exact ⟨B,n,j+1,by omega,by go_num,rfl,rfl,by show Tr.bsR _ _ _ _ (j+1)=_;rw [Tr.bsR,HL.out,HP.out,HBS.out],hB4,hC1,hC9.out,B2⟩
                    case measure=>simp [intOf];omega
                 · have h2':¬ (1:Int)<(n:Int):=by omega
                   have d2:decide ((1:Int)<(n:Int))=false:=decide_eq_false h2'
                   have HBS:Hid (Tr.bs xs d (B,n) P=(B,n)):=Tr.bs_no (.inl (by rw [HNN.out];omega))
                   clear c2
                   go_wp2_with (first
                    | (at_lookup;refine wpList_lookup_own_int _ rfl _ _ 140 rfl 9 3 .i64 keyS Tryz.underlying140 Tryz.underlying3 (zeroI _) w.heap.size 6144 _ rfl hown _ _ rfl hkey ?_;intro c hat hwc;obtain rfl:=hatC c hat;clear hat hwc)
                    | fail)
                   go_roundw
                   case rel=>exact ⟨B,n,j+1,by omega,by go_num,rfl,rfl,by show Tr.bsR _ _ _ _ (j+1)=_;rw [Tr.bsR,HL.out,HP.out,HBS.out],hB4,hC1,hC9.out,B2⟩
                   case measure=>simp [intOf];omega
               · have hE':¬ (n:Int)=(C:Int):=by omega
                 have d2:decide ((n:Int)=(C:Int))=false:=decide_eq_false hE'
                 have d3:((n:Int) == (C:Int))=false:=by simpa using hE'
                 have HBS:Hid (Tr.bs xs d (B,C) P=(B,C)):=Tr.bs_no (.inl (by rw [HNN.out];omega))
                 clear c2
                 go_wp2_with (first
                  | (at_lookup;refine wpList_lookup_own_int _ rfl _ _ 140 rfl 9 3 .i64 keyS Tryz.underlying140 Tryz.underlying3 (zeroI _) w.heap.size 6144 _ rfl hown _ _ rfl hkey ?_;intro c hat hwc;obtain rfl:=hatC c hat;clear hat hwc)
                  | fail)
                 go_roundw
                 case rel=>exact ⟨B,C,j+1,by omega,by go_num,rfl,rfl,by show Tr.bsR _ _ _ _ (j+1)=_;rw [Tr.bsR,HL.out,HP.out,HBS.out],hB4,hC1,hC9.out,B2⟩
                 case measure=>simp [intOf];omega
           · have e2:decide ((j:Int)+4<=(X.size:Int))=false:=decide_eq_false (by omega)
             have hj5:(j:Int)<=512:=by omega
             have HT2:Hid (Tr.bsT xs d (k+1)=(B,C)):=by
              show _=_
              rw [Tr.bsT,HXk.out,HT.out,show X.size - 3=j by omega]
              exact HL.out
             go_wp2_with fail
             go_roundw
             case rel=>exact ⟨B,C,k+1,by omega,by go_num,rfl,rfl,HT2,hB4,hC1,hC0,B2⟩
             case measure=>simp [intOf];omega
        · obtain rfl:k=xs.length:=by omega
          have d1:decide ((xs.length:Int)<(xs.length:Int))=false:=by simp
          have HBB:Hid (Tr.best xs d=B0):=by show _=_;rw [Tr.best,HT.out]
          rcases Tr.best_four xs d with hz | hz
          · have HN:Hid (d=R):=by
             have h9:=HRd.out
             rw [Tr.tro_none hz] at h9
             exact h9
            rw [HBB.out] at hz
            obtain rfl:=Tr.size_zero hz
            clear hz
            go_wp2_with fail
            go_ret
            exact ⟨by rw [HN.out];rfl,B1⟩
          · obtain ⟨g,rfl⟩:∃ g,f=g+1:=⟨f - 1,by have:=Hf.out;omega⟩
            have HN:Hid (Tr.tro xs size.toNat g (B0++d)=R):=by
             have h9:=HRd.out
             rw [Tr.tro_step (by omega) hz,HBB.out] at h9
             exact h9
            rw [HBB.out] at hz
            have hXd:(B0++d).size=4+d.size:=by rw [ByteArray.size_append,hz]
            have hne:B0.toList.isEmpty=false:=Tr.not_empty (by omega)
            have hne2:(B0.toList == [])=false:=by rw [<-hne];cases B0.toList <;> rfl
            have hf1:Hid (4*g+(B0++d).size=260):=by have:=Hf.out;show 4*g+_=260;omega
            have hzz:Hid (B0.size=4):=hz
            clear hz
            go_wp2_with fail
            go_roundw
            case rel=>exact ⟨B0++d,g,rfl,HN,hf1,by omega,hC0,B1⟩
            case measure=>simp [Tr.bsz];have:=hzz.out;omega
     · have e1:decide ((d.size:Int)+4<=size)=false:=decide_eq_false hfit
       have HN:Hid (d=R):=by
        have h9:=HRd.out
        rw [Tr.tro_full (by omega)] at h9
        exact h9
       go_wp2_with fail
       go_ret
       exact ⟨by rw [HN.out];rfl,B1⟩
theorem tro_nil (size:Nat) (f:Nat):Tr.tro [] size f ⟨#[]⟩=⟨#[]⟩:=Tr.tro_none rfl
theorem trainOf_nil (size:Int) (ad:Option Addr) (cap:Nat) (w:World) :
 Calls Tryz.prog 70 #[.slice ad 0 cap,.int .i64 size] w fun e w'=>e=.returned (.string ⟨#[]⟩)/\Below w.heap.size w w':=by
 have hmm:=@run_makeMap Tryz.prog
 go_enter Tryz.func70,Tryz.ntmps70
 go_wp2_with fail
 go_loopw [6] (fun i wr=>i=.int .i64 0/\Below w.heap.size w wr) (fun i _=>0)
 case atStart=>exact ⟨rfl,(Below.refl _ _).alloc (Nat.le_refl _) _⟩
 case round =>
  obtain ⟨rfl,B1⟩:=hrel
  go_wp2_with fail
  go_loopw [10] (fun dv wr=>dv=.string ⟨#[]⟩/\Below w.heap.size w wr) (fun _ _=>0)
  case atStart=>exact ⟨rfl,B1⟩
  case round =>
   clear B1
   obtain ⟨rfl,B1⟩:=hrel
   by_cases hfit:(4:Int)<=size
   · have e1:decide ((4:Int)<=size)=true:=decide_eq_true hfit
     go_wp2_with fail
     go_loopw [11,12,13] (fun bv cv iv wr=>iv=.int .i64 0/\bv=.string ⟨#[]⟩/\Below w.heap.size w wr) (fun _ _ _ _=>0)
     case atStart=>exact ⟨rfl,rfl,B1⟩
     case round =>
      clear B1
      obtain ⟨rfl,rfl,B1⟩:=hrel
      go_wp2_with fail
      go_ret
      exact ⟨rfl,B1⟩
   · have e1:decide ((4:Int)<=size)=false:=decide_eq_false hfit
     go_wp2_with fail
     go_ret
     exact ⟨rfl,B1⟩
theorem trainOf_any (xs:List ByteArray) (size:Int) (ad:Option Addr) (cap:Nat) (w:World) (hx:TxSl w ad xs) (hn:xs.length<=12) (hB:∀ i,(Tr.xa xs i).size<=512) (h0:0<=size) (h1:size<=256) :
 Calls Tryz.prog 70 #[.slice ad xs.length cap,.int .i64 size] w fun e w'=>e=.returned (.string (Tr.trn xs size.toNat))/\Below w.heap.size w w':=by
 rcases hx with rfl | ⟨b,off,rfl,h2⟩
 · rw [Tr.trn,tro_nil];exact trainOf_nil size ad cap w
 · exact trainOf_some xs size b off cap w h2 hn hB h0 h1
end Go.Proofs.YtbjbjbpgmojcbabGreat
namespace Go.Proofs.YtbjbjbpgmojcbabGreat
open Go.RowKit
theorem retrainOf_ok (ad af:Option Addr) (cd cf:Nat) (a:Ar.A) (size:Int) (w:World) (h:ArV w ad af a) (hs:SaneA a) (hE:Ar.retE a size=0) :
 Calls Tryz.prog 28 #[av ad cd af cf a,.int .i64 size] w fun e w'=>ArSaid w ⟨Ar.retD a size,a.files.map (Ar.reF a size)⟩ 0 e w':=by
 obtain ⟨hc,hzz1,hzz2,h4⟩:=Ar.retE_zero hE
 obtain ⟨i0,hi,hz0,hz1,hz2⟩:=info_parts (P:=Tryz.prog) (e:=9) (z:=.string ⟨#[]⟩) (size:=1) (bytes:=16) (by kernel_rfl)
 obtain ⟨j0,gi,gz0,gz1,gz2⟩:=info_parts (P:=Tryz.prog) (e:=46) (z:=.agg #[.string ⟨#[]⟩,.int .i64 0,.int .i64 0,.int .i64 0,.string ⟨#[]⟩]) (size:=5) (bytes:=56) (by kernel_rfl)
 obtain ⟨m1,m2,m3⟩:=Ar.many_iff.1 (Ar.chk_zero.1 hc).1
 have C1:Hid (∀ w',Below w.heap.size w w'->Calls Tryz.prog 19 #[av ad cd af cf a] w' fun e w2=>e=.returned (.int .i64 (Ar.chk a))/\Below w'.heap.size w' w2):=fun w' h9=>checkArch_any ad af cd cf a w' (h.below h9) hs
 have C2:Hid (∀ w',Calls Tryz.prog 57 #[.int .i64 size,.int .i64 0,.int .i64 256] w' fun e w2=>e=.returned (.bool (decide (0<=size/\size<=256)))/\w2=w'):=fun w'=>within_any size 0 256 w'
 have C3:Hid (∀ k,k<a.files.length->∀ w',Below w.heap.size w w'->Calls Tryz.prog 65 #[av ad cd af cf a,.int .i64 (k:Nat)] w' fun e w2=>e=.returned (.string (Ar.tx a.dicts (Ar.fa a.files k)))/\Below w'.heap.size w' w2):=fun k hk w' h9=>textAt_any ad af cd cf a k w' (h.below h9) hs hc hk
 have hT:=Ar.txs_many hc
 have HTl:Hid ((Ar.txs a).length=a.files.length):=by show _=_;unfold Ar.txs;rw [List.length_map]
 have C4:Hid (∀ w' adt capt,TxSl w' adt (Ar.txs a)->Calls Tryz.prog 70 #[.slice adt a.files.length capt,.int .i64 size] w' fun e w2=>e=.returned (.string (Tr.trn (Ar.txs a) size.toNat))/\Below w'.heap.size w' w2):=fun w' adt capt h9=>by
  have:=trainOf_any (Ar.txs a) size adt capt w' h9 hT.1 (fun i=>by
   by_cases hi:i<(Ar.txs a).length
   · have e:Tr.xa (Ar.txs a) i=(Ar.txs a)[i]:=by simp [Tr.xa,hi]
     rw [e]
     exact hT.2 _ (List.getElem_mem hi)
   · have e:Tr.xa (Ar.txs a) i=⟨#[]⟩:=by simp [Tr.xa,hi]
     rw [e];exact Nat.zero_le _) hzz1 hzz2
  rw [HTl.out] at this
  exact this
 have hmr:=Ar.many_ret hE
 have hrl:(Ar.retD a size).length=a.dicts.length+1:=by unfold Ar.retD;rw [List.length_append];rfl
 have hrm:(Ar.retD a size).map Value.string=a.dicts.map Value.string++[.string (Tr.trn (Ar.txs a) size.toNat)]:=by unfold Ar.retD;rw [List.map_append];rfl
 have C5:Hid (∀ w' adx cdx afx cfx nfx m,m<a.files.length->TxSl w' adx (Ar.retD a size)->Calls Tryz.prog 58 #[.agg #[.slice adx (a.dicts.length+1) cdx,.slice afx nfx cfx],.string (Ar.fa a.files m).name,.string (Ar.tx a.dicts (Ar.fa a.files m)),.int .i64 ((a.dicts.length:Int)+1)] w' fun e w2=>e=.returned (fv (Ar.reF a size (Ar.fa a.files m)))/\Below w'.heap.size w' w2):=fun w' adx cdx afx cfx nfx m hm hx=>by
  have hmem:Ar.fa a.files m ∈ a.files:=by rw [Ar.fa_get hm];exact List.getElem_mem hm
  have:=packed_any adx afx cdx cfx ⟨Ar.retD a size,List.replicate nfx Ar.fz⟩ (Ar.fa a.files m).name (Ar.tx a.dicts (Ar.fa a.files m)) ((a.dicts.length:Int)+1) w' hx (by show (Ar.retD a size).length<=_;omega) (by show Ar.has (Ar.retD a size) _=true;unfold Ar.has;rw [hrl];exact decide_eq_true ⟨by omega,by omega⟩) (by have:=Ar.dct_size hmr ((a.dicts.length:Int)+1);exact this) (Ar.tx_size hc hmem)
  unfold av at this
  simp only [hrl,List.length_replicate] at this
  exact this
 have HDn:Hid (∀ w',Below w.heap.size w w'->(a.dicts.length=0\/∃ b,ad=some b/\∀ j u,(a.dicts.map Value.string)[j]?=some u->w'.cell? (b.add j)=some u)):=fun w' h9=>(h.ds.below h9).news
 have HFl:Hid (∀ k,k<a.files.length->∃ b off,af=some ⟨b,off,none⟩/\b<w.heap.size/\Hid (∀ w',Below w.heap.size w w'->w'.cell? ⟨b,off+k*5,none⟩=some (.string (Ar.fa a.files k).name))):=fun k hk=>by
  obtain ⟨b,off,h1,h2,h3⟩:=h.fs.at hk
  exact ⟨b,off,h1,h2,fun w' h9=>(h3.below h9 h2).c0⟩
 have HDl:Hid ((a.dicts.map Value.string).length=a.dicts.length*1):=by show _=_;simp
 have HD1:Hid (∀ u ∈ a.dicts.map Value.string,u.oneCell'=true):=fun u hu=>by obtain ⟨x,_,rfl⟩:=List.mem_map.1 hu;rfl
 have HTK:Hid (∀ k,k<a.files.length->Ar.txK a (k+1)=Ar.txK a k++[Ar.tx a.dicts (Ar.fa a.files k)]):=fun k hk=>Ar.txK_succ hk
 have HTA:Hid (Ar.txK a a.files.length=Ar.txs a):=Ar.txK_all a
 have HT5:Hid (∀ k,k<a.files.length->(Ar.tx a.dicts (Ar.fa a.files k)).size<=512):=fun k hk=>Ar.tx_size hc (by rw [Ar.fa_get hk];exact List.getElem_mem hk)
 have HTx:Hid (∀ k,k<a.files.length->Tr.xa (Ar.txs a) k=Ar.tx a.dicts (Ar.fa a.files k)):=fun k hk=>by unfold Ar.txs;simp [Tr.xa,Ar.fa,hk]
 have HOw:Hid (∀ lo w' v,w'.ownsRow lo 9 1 v a.files.length ((Ar.txs a).map Value.string)->∃ adt capt,v=.slice adt a.files.length capt/\TxSl w' adt (Ar.txs a)):=fun lo w' v h9=>by
  rw [<-HTl.out] at h9 |-
  obtain ⟨adt,capt,h1,_,h2⟩:=tx_owns h9
  exact ⟨adt,capt,h1,TxFar.sl h2⟩
 have HRx:Hid (∀ lo w' adx cdx,w'.ownsRow lo 9 1 (.slice adx (a.dicts.length+1) cdx) (a.dicts.length+1) (a.dicts.map Value.string++[.string (Tr.trn (Ar.txs a) size.toNat)])->TxSl w' adx (Ar.retD a size)):=fun lo w' adx cdx h9=>by
  rw [<-hrm,<-hrl] at h9
  obtain ⟨ad2,cap2,e2,_,h5⟩:=tx_owns h9
  simp only [Value.slice.injEq] at e2
  obtain ⟨rfl,_,rfl⟩:=e2
  exact TxFar.sl h5
 have hQ1:Hid (∀ v1 v2 w',w'.ownsRow w.heap.size 9 1 v1 (a.dicts.length+1) (a.dicts.map Value.string++[.string (Tr.trn (Ar.txs a) size.toNat)])->w'.ownsRow w.heap.size 46 5 v2 a.files.length (fcs ((a.files.take a.files.length).map (Ar.reF a size)))->(∀ j,v1.ownBlock=some j->v2.ownBlock ≠ some j)->Below w.heap.size w w'->ArSaid w ⟨Ar.retD a size,a.files.map (Ar.reF a size)⟩ 0 (.returned (.tuple #[.agg #[v1,v2],.int .i64 0])) w'):=fun v1 v2 w' k1 k2 k3 k4=>by
  rw [List.take_length] at k2
  rw [<-hrm,<-hrl] at k1
  exact ⟨v1,v2,rfl,⟨k1,by show w'.ownsRow _ _ _ _ (a.files.map (Ar.reF a size)).length _;rw [List.length_map];exact k2,k3⟩,k4⟩
 generalize ArSaid w ⟨Ar.retD a size,a.files.map (Ar.reF a size)⟩ 0=Q at *
 have HFS:Hid (∀ k,k<a.files.length->fcs ((a.files.take (k+1)).map (Ar.reF a size))=fcs ((a.files.take k).map (Ar.reF a size))++[.string (Ar.reF a size (Ar.fa a.files k)).name,.int .i64 (Ar.reF a size (Ar.fa a.files k)).dict,.int .i64 (Ar.reF a size (Ar.fa a.files k)).size,.int .i64 (Ar.reF a size (Ar.fa a.files k)).sum,.string (Ar.reF a size (Ar.fa a.files k)).blk]):=fun k hk=>by rw [Ar.take_succ' hk,List.map_append,fcs_append];rfl
 have HF0:Hid (fcs ((a.files.take 0).map (Ar.reF a size))=[]):=rfl
 rw [hc] at C1
 rw [decide_eq_true ⟨hzz1,hzz2⟩] at C2
 unfold av at C1 C3 |-
 unfold fv at C5
 clear h hs hE hc m3 hT hmr hrl hrm
 generalize Tr.trn (Ar.txs a) size.toNat=X at *
 generalize Ar.retD a size=rd at *
 generalize Ar.reF a size=rf at *
 obtain ⟨D,hDD⟩:∃ D,a.dicts.length=D:=⟨_,rfl⟩
 obtain ⟨N,hNN⟩:∃ N,a.files.length=N:=⟨_,rfl⟩
 simp only [hDD,hNN] at C1 C3 C4 C5 HDn HFl HDl HTK HTA HT5 HTx HOw HRx hQ1 HFS HTl m1 m2 h4 |-
 clear hDD hNN
 generalize a.dicts.map Value.string=ds at *
 generalize Ar.fa a.files=fa at *
 generalize Ar.tx a.dicts=tx at *
 have hDi:(D:Int)<=4:=by omega
 have hNi:(N:Int)<=12:=by omega
 have d4:decide ((4:Int)<=(D:Int))=false:=decide_eq_false (by omega)
 have d4':decide (4<=D)=false:=decide_eq_false (by omega)
 go_enter Tryz.func28,Tryz.ntmps28
 go_wp2_with fail
 refine (C1.out _ (Fr.start w _ _).b).mono ?_
 rintro e w1 ⟨rfl,G1⟩
 have F1:=(Fr.start w _ _).next G1
 clear G1 C1
 obtain ⟨b,a0,a1,r0,r1,z0,z1,hz⟩:=id F1
 go_wp2_with fail
 refine (C2.out _).mono ?_
 rintro e w3 ⟨rfl,rfl⟩
 clear C2
 go_wp2_with fail
 clear b a0 a1 r0 r1 z0 z1
 go_loopw [7,8] (fun l i wr=>∃ (k:Nat),k<=N/\i=.int .i64 k/\wr.ownsRow w3.heap.size 9 1 l k ((Ar.txK a k).map Value.string)/\Below w3.heap.size w3 wr) (fun _ i _=>N - (intOf i).toNat)
 case atStart=>exact ⟨0,by omega,rfl,⟨rfl,.inl ⟨rfl,rfl⟩⟩,Below.refl _ _⟩
 case round =>
  rename_i vl _
  obtain ⟨k,hk2,rfl,hrow,B1⟩:=hrel
  have F2:=F1.next B1
  obtain ⟨B2,a0,a1,r0,r1,z0,z1,hzF⟩:=id F2
  by_cases hlt:k<N
  · have e1:decide ((k:Int)<(N:Int))=true:=decide_eq_true (by omega)
    have e1':decide (k<N)=true:=decide_eq_true hlt
    have hki:(k:Int)<(N:Int):=by omega
    have c3:=C3.out k hlt wr B2
    have HN:=HTK.out k hlt
    have hT5:=HT5.out k hlt
    generalize tx (fa k)=T at *
    go_wp2_with fail
    refine c3.mono ?_
    rintro e w4 ⟨rfl,G⟩
    have hrow4:=own_below hrow G
    have B4:Below w3.heap.size w3 w4:=bch B1 G (Nat.le_refl _)
    have hz4:=B4.size
    clear G hrow c3 a0 a1 r0 r1 z0 z1
    go_wp2_with (first
     | (at_builtin;refine wpList_append_own _ rfl _ _ 22 rfl w3.heap.size 9 i0 (.string ⟨#[]⟩) 1 16 Tryz.underlying22 hi hz0 hz1 hz2 rfl (by decide) _ _ _ rfl (hrow4.alloc _) ⟨w4.heap.size,0,none⟩ 1 1 [.string T] rfl rfl (cell_one_new _ _ _) (by simp [Value.oneCell']) (by unfold maxLen at *;omega) (by omega) (by simp;omega) ?_;intro v' w5 hown' hg5 hnil5;go_frame)
     | fail)
    have B5:Below w3.heap.size w3 w5:=(B4.alloc B4.size (.cells #[.string T] 9 (0,0))).grown hg5 (by simp;omega) (fun j hj=>(hrow4.lt j hj).1)
    go_roundw
    case rel=>exact ⟨k+1,by omega,by go_num,by rw [HN,List.map_append];exact hown',B5⟩
    case measure=>simp [intOf];omega
  · obtain rfl:k=N:=by omega
    have e1:decide ((k:Int)<(k:Int))=false:=by simp
    rw [HTA.out] at hrow
    obtain ⟨adt,capt,rfl,htx⟩:=HOw.out _ _ _ hrow
    have hzw:w.heap.size<wr.heap.size:=by omega
    have O0:=own_empty wr wr.heap.size 9 1 (Nat.le_refl _)
    have hD2:=HDn.out _ (B2.alloc (by have:=B2.size;omega) (.cells #[] 9 (0,0)))
    have hds1:=HDl.out
    have hds2:=HD1.out
    go_wp2_with (first
     | (at_builtin;refine wpList_append_all rfl _ _ 22 rfl wr.heap.size 9 i0 (.string ⟨#[]⟩) 1 16 Tryz.underlying22 hi hz0 hz1 hz2 rfl (by decide) wr.heap.size 0 0 [] rfl O0 ad D cd ds rfl hds1 hD2 hds2 (by unfold maxLen;omega) (by omega) (by simp) _ rfl ?_;intro g cp w5 hown5 hgrow5 hat5)
     | fail)
    have BX:Below wr.heap.size wr w5:=((Below.refl _ _).alloc (Nat.le_refl _) _).grown hgrow5 (by simp) (fun j hj=>by simp at hj;omega)
    simp only [Nat.zero_add,List.nil_append] at hown5 |-
    clear O0 hD2 hds1 hds2 hgrow5 hat5 HDn HDl HD1
    refine (C4.out w5 adt capt (htx.below BX)).mono ?_
    rintro e w6 ⟨rfl,G6⟩
    have hown6:=own_below hown5 G6
    have B6:Below wr.heap.size wr w6:=bch BX G6 (Nat.le_refl _)
    have hz6:=B6.size
    clear G6 hown5 BX C4 a0 a1 r0 r1 z0 z1
    go_wp2_with (first
     | (at_builtin;refine wpList_append_lies _ rfl _ _ 22 rfl wr.heap.size 9 i0 (.string ⟨#[]⟩) 1 16 Tryz.underlying22 hi hz0 hz1 hz2 rfl (by decide) (.slice (some ⟨g,0,none⟩) D cp) D ds rfl (hown6.alloc _) ⟨w6.heap.size,0,none⟩ 1 1 [.string X] rfl rfl (cell_one_new _ _ _) (by simp [Value.oneCell']) (by decide) (by unfold maxLen;omega) (by omega) (by simp;omega) _ rfl ?_;intro g2 cp2 w7 hown7 hgrow7 hat7 hlt7)
     | fail)
    have B7:Below wr.heap.size wr w7:=(B6.alloc B6.size (.cells #[.string X] 9 (0,0))).grown hgrow7 (by simp;omega) (fun j hj=>(hown6.lt j hj).1)
    have S0:=CpS.new1 B7 B7.size hown7
    clear hgrow7 hat7 hlt7 hown7 hown6 B6 hz6 B7
    generalize (w7.alloc (.cells #[.slice (some ⟨g2,0,none⟩) (D+1) cp2,.slice none 0 0] 25 (0,0)))=w8 at *
    generalize w7.heap.size=C at *
    generalize hw4:wr=w4 at *
    clear hw4
    go_loopw [10] (fun i wr=>∃ (m:Nat) (v2:Value),m<=k/\i=.int .i64 m/\CpS w4 wr C w4.heap.size (.slice (some ⟨g2,0,none⟩) (D+1) cp2) v2 (D+1) m (ds++[.string X]) (fcs ((a.files.take m).map rf))) (fun i _=>k - (intOf i).toNat)
    case atStart=>exact ⟨0,_,by omega,rfl,by rw [HF0.out];exact S0⟩
    case round =>
     obtain ⟨m,v2,hm2,rfl,S1⟩:=hrel
     have F4:=F2.keep S1.bel hzF
     obtain ⟨B4,a0,a1,r0,r1,z0,z1,hz4⟩:=id F4
     by_cases hlm:m<k
     · have e2:decide ((m:Int)<(k:Int))=true:=decide_eq_true (by omega)
       have e2':decide (m<k)=true:=decide_eq_true hlm
       have hmi:(m:Int)<(k:Int):=by omega
       obtain ⟨b,off,rfl,hbw,HFw⟩:=HFl.out m hlm
       have c0:=HFw.out wr B4
       have hbl:b<wr.heap.size:=Nat.lt_of_lt_of_le hbw B4.size
       obtain ⟨bt,ot,rfl,hbt,htc⟩:=htx.at (i:=m) (by rw [HTl.out];exact hlm)
       rw [HTx.out m hlm] at htc
       have HT2:Hid (∀ w',Below w4.heap.size w4 w'->w'.cell? ⟨bt,ot+m,none⟩=some (.string (tx (fa m)))):=fun w' h9=>(h9.cell (p:=⟨bt,ot+m,none⟩) hbt).trans htc
       clear htc
       have hbtw:bt<wr.heap.size:=Nat.lt_of_lt_of_le hbt S1.bel.size
       have c1S:=S1.c1
       have c0S:=S1.c0
       have f1S:=S1.f1
       have hbC:=S1.hb
       have hlC:=S1.hC
       obtain ⟨p2,q2,rfl,_⟩:=own_slice S1.o2
       have HN:=HFS.out m hlm
       have htd:=HRx.out _ _ _ _ S1.o1
       have CP:Hid (∀ w',Below wr.heap.size wr w'->Calls Tryz.prog 58 #[.agg #[.slice (some ⟨g2,0,none⟩) (D+1) cp2,.slice p2 m q2],.string (fa m).name,.string (tx (fa m)),.int .i64 ((D:Int)+1)] w' fun e w2=>e=.returned (.agg #[.string (rf (fa m)).name,.int .i64 (rf (fa m)).dict,.int .i64 (rf (fa m)).size,.int .i64 (rf (fa m)).sum,.string (rf (fa m)).blk])/\Below w'.heap.size w' w2):=fun w' h9=>C5.out w' _ _ _ _ _ m hlm (htd.below h9)
       clear htd
       generalize (rf (fa m)).name=n0 at *
       generalize (rf (fa m)).dict=n1 at *
       generalize (rf (fa m)).size=n2 at *
       generalize (rf (fa m)).sum=n3 at *
       generalize (rf (fa m)).blk=n4 at *
       generalize (fa m).name=f0 at *
       generalize tx (fa m)=tm at *
       go_wp2_with fail
       have HSS:Hid (∀ w',Below w4.heap.size w4 w'->w'.cell? ⟨C,0,none⟩=some (.slice (some ⟨g2,0,none⟩) (D+1) cp2)->(fun w'=>w'.cell? ⟨w.heap.size,1,none⟩=some (.slice (some ⟨b,off,none⟩) k cf)/\w'.cell? ⟨b,off+m*5,none⟩=some (.string f0)/\w'.cell? ⟨bt,ot+m,none⟩=some (.string tm)/\w'.cell? ⟨C,0,none⟩=some (.slice (some ⟨g2,0,none⟩) (D+1) cp2)) w'):=fun w' h9 h8=>⟨(F2.keep h9 hzF).a1,HFw.out w' (F2.keep h9 hzF).b,HT2.out w' h9,h8⟩
       refine wp_region_held_drew (S:=fun w'=>w'.cell? ⟨w.heap.size,1,none⟩=some (.slice (some ⟨b,off,none⟩) k cf)/\w'.cell? ⟨b,off+m*5,none⟩=some (.string f0)/\w'.cell? ⟨bt,ot+m,none⟩=some (.string tm)/\w'.cell? ⟨C,0,none⟩=some (.slice (some ⟨g2,0,none⟩) (D+1) cp2)) (by kernel_rfl) (HSS.out _ S1.bel.drew c0S) (fun hS=>?_)
       refine wpAnyH_take (i:=0) (fuel:=20) (v:=.pointer (some ⟨C,1,none⟩)) rfl (by kernel_rfl) (by kernel_rfl) (by kernel_rfl) (fun _ _ _ h=>h) (Or.inl ⟨by rfl,fun w' h9=>by obtain ⟨k1,k2,k3,k4⟩:=h9;go_simp⟩) hS ?_
       refine wpAnyH_take (i:=3) (fuel:=19) (v:=.pointer (some ⟨w.heap.size,1,none⟩)) rfl (by kernel_rfl) (by kernel_rfl) (by kernel_rfl) (fun _ _ _ h=>h) (Or.inl ⟨by rfl,fun w' h9=>by obtain ⟨k1,k2,k3,k4⟩:=h9;go_simp⟩) hS ?_
       refine wpAnyH_take (i:=4) (fuel:=18) (v:=.slice (some ⟨b,off,none⟩) k cf) rfl (by kernel_rfl) (by kernel_rfl) (by kernel_rfl) (fun _ _ _ h=>h) (Or.inl ⟨by rfl,fun w' h9=>by obtain ⟨k1,k2,k3,k4⟩:=h9;go_simp⟩) hS ?_
       refine wpAnyH_take (i:=5) (fuel:=17) (v:=.int .i64 (m:Nat)) rfl (by kernel_rfl) (by kernel_rfl) (by kernel_rfl) (fun _ _ _ h=>h) (Or.inl ⟨by rfl,fun w' h9=>by obtain ⟨k1,k2,k3,k4⟩:=h9;go_simp⟩) hS ?_
       refine wpAnyH_take (i:=6) (fuel:=16) (v:=.pointer (some ⟨b,off+m*5,none⟩)) rfl (by kernel_rfl) (by kernel_rfl) (by kernel_rfl) (fun _ _ _ h=>h) (Or.inl ⟨by rfl,fun w' h9=>by obtain ⟨k1,k2,k3,k4⟩:=h9;go_simp⟩) hS ?_
       refine wpAnyH_take (i:=7) (fuel:=15) (v:=.pointer (some ⟨b,off+m*5,none⟩)) rfl (by kernel_rfl) (by kernel_rfl) (by kernel_rfl) (fun _ _ _ h=>h) (Or.inl ⟨by rfl,fun w' h9=>by obtain ⟨k1,k2,k3,k4⟩:=h9;go_simp⟩) hS ?_
       refine wpAnyH_take (i:=8) (fuel:=14) (v:=.string f0) rfl (by kernel_rfl) (by kernel_rfl) (by kernel_rfl) (fun _ _ _ h=>h) (Or.inl ⟨by rfl,fun w' h9=>by obtain ⟨k1,k2,k3,k4⟩:=h9;go_simp⟩) hS ?_
       refine wpAnyH_take (i:=9) (fuel:=13) (v:=.slice (some ⟨bt,ot,none⟩) k capt) rfl (by kernel_rfl) (by kernel_rfl) (by kernel_rfl) (fun _ _ _ h=>h) (Or.inl ⟨by rfl,fun w' h9=>by obtain ⟨k1,k2,k3,k4⟩:=h9;go_simp⟩) hS ?_
       refine wpAnyH_take (i:=10) (fuel:=12) (v:=.int .i64 (m:Nat)) rfl (by kernel_rfl) (by kernel_rfl) (by kernel_rfl) (fun _ _ _ h=>h) (Or.inl ⟨by rfl,fun w' h9=>by obtain ⟨k1,k2,k3,k4⟩:=h9;go_simp⟩) hS ?_
       refine wpAnyH_take (i:=11) (fuel:=11) (v:=.pointer (some ⟨bt,ot+m,none⟩)) rfl (by kernel_rfl) (by kernel_rfl) (by kernel_rfl) (fun _ _ _ h=>h) (Or.inl ⟨by rfl,fun w' h9=>by obtain ⟨k1,k2,k3,k4⟩:=h9;go_simp⟩) hS ?_
       refine wpAnyH_take (i:=12) (fuel:=10) (v:=.string tm) rfl (by kernel_rfl) (by kernel_rfl) (by kernel_rfl) (fun _ _ _ h=>h) (Or.inl ⟨by rfl,fun w' h9=>by obtain ⟨k1,k2,k3,k4⟩:=h9;go_simp⟩) hS ?_
       refine wpAnyH_take (i:=13) (fuel:=9) (v:=.pointer (some ⟨C,0,none⟩)) rfl (by kernel_rfl) (by kernel_rfl) (by kernel_rfl) (fun _ _ _ h=>h) (Or.inl ⟨by rfl,fun w' h9=>by obtain ⟨k1,k2,k3,k4⟩:=h9;go_simp⟩) hS ?_
       refine wpAnyH_take (i:=14) (fuel:=8) (v:=.slice (some ⟨g2,0,none⟩) (D+1) cp2) rfl (by kernel_rfl) (by kernel_rfl) (by kernel_rfl) (fun _ _ _ h=>h) (Or.inl ⟨by rfl,fun w' h9=>by obtain ⟨k1,k2,k3,k4⟩:=h9;go_simp⟩) hS ?_
       refine wpAnyH_take (i:=15) (fuel:=7) (v:=.int .i64 ((D:Int)+1)) rfl (by kernel_rfl) (by kernel_rfl) (by kernel_rfl) (fun _ _ _ h=>h) (Or.inl ⟨by rfl,fun w' h9=>by obtain ⟨k1,k2,k3,k4⟩:=h9;go_simp⟩) hS ?_
       clear HFl HTx HTK HT5 C3 C5 HFS HRx HOw HTA HTl HF0 hQ1
       refine wpAnyH_ready (rs:=[1,2]) (fuel:=6) (by kernel_rfl) (by simp) ?_
       refine AllReadyH.cons rfl (fun K hK=>?_) (AllReadyH.cons rfl (fun K hK=>?_) AllReadyH.nil)
       · go_simp
         refine hK.out _ _ hS (fun _=>?_)
         clear hK
         refine wpAnyH_ready (rs:=[2]) (fuel:=5) (by kernel_rfl) (by simp) ?_
         refine AllReadyH.cons rfl (fun K hK=>?_) AllReadyH.nil
         go_simp
         refine hK.out _ _ hS (fun _=>?_)
         clear hK
         refine wpAnyH_ready (rs:=[16]) (fuel:=4) (by kernel_rfl) (by simp) ?_
         refine AllReadyH.cons rfl (fun K hK=>?_) AllReadyH.nil
         go_simp
         refine (CP.out _ ((Below.refl _ _).drew)).mono ?_
         rintro e t8 ⟨rfl,G8⟩
         have S2:=S1.below (Below.trans ((Below.refl _ _).drew) G8)
         have c1T:=S2.c1
         have hbT:=S2.hb
         have c9T:∀ o,(t8.alloc o).cell? ⟨C,1,none⟩=some (.slice p2 m q2):=(fun o=>(World.cell?_alloc_lt _ _ _ hbT).trans c1T)
         have hS8:=HSS.out _ S2.bel S2.c0
         refine hK.out _ _ hS8 (fun _=>?_)
         clear hK
         refine wpAnyH_ready (rs:=[17]) (fuel:=3) (by kernel_rfl) (by simp) ?_
         refine AllReadyH.cons rfl (fun K hK=>?_) AllReadyH.nil
         go_simp
         have SA:=S2.below ((Below.refl _ _).alloc (Nat.le_refl _) (.cells #[.string n0,.int .i64 n1,.int .i64 n2,.int .i64 n3,.string n4] 46 (0,0)))
         have hS9:=HSS.out _ SA.bel SA.c0
         refine hK.out _ _ hS9 (fun _=>?_)
         clear hK
         refine wpAnyH_ready (rs:=[18]) (fuel:=2) (by kernel_rfl) (by simp) ?_
         refine AllReadyH.cons rfl (fun K hK=>?_) AllReadyH.nil
         refine step_append_lies _ rfl _ _ 23 rfl w4.heap.size 46 j0 (.agg #[.string ⟨#[]⟩,.int .i64 0,.int .i64 0,.int .i64 0,.string ⟨#[]⟩]) 5 56 Tryz.underlying23 gi gz0 gz1 gz2 rfl (by decide) _ _ _ rfl (S2.o2.alloc _) ⟨t8.heap.size,0,none⟩ 1 1 [.string n0,.int .i64 n1,.int .i64 n2,.int .i64 n3,.string n4] rfl rfl (news5 _ _ _ _ _ _ _) (one5 _ _ _ _ _) (by decide) (by unfold maxLen;omega) (by omega) (by simp;omega) _ rfl ?_
         intro g7 cp7 t7 hown7 hgrow7 hat7 hlt7
         obtain ⟨⟨q1,q2⟩,S4⟩:=S2.put2 hgrow7 hown7 hat7
         have hM7:=S2.mid2 hgrow7
         have hS7:=HSS.out _ hM7.2 hM7.1
         clear hgrow7 hown7 hat7 hlt7 hM7
         refine hK.out _ _ hS7 (fun _=>?_)
         clear hK
         refine wpAnyH_ready (rs:=[19]) (fuel:=1) (by kernel_rfl) (by simp) ?_
         refine AllReadyH.cons rfl (fun K hK=>?_) AllReadyH.nil
         go_simp
         refine hK.out _ _ hS7 (fun _=>?_)
         clear hK
         refine wpAnyH_ready (rs:=[20]) (fuel:=0) (by kernel_rfl) (by simp) ?_
         refine AllReadyH.cons rfl (fun K hK=>?_) AllReadyH.nil
         go_simp
         refine hK.out _ _ (HSS.out _ S4.bel S4.c0) (fun _=>?_)
         clear hK
         refine ⟨by kernel_rfl,?_⟩
         go_wp2_with fail
         go_roundw
         case rel=>exact ⟨m+1,_,by omega,by go_num,by rw [HN];exact S4⟩
         case measure=>simp [intOf];omega
       · go_simp
         refine hK.out _ _ hS (fun _=>?_)
         clear hK
         refine wpAnyH_ready (rs:=[1,16]) (fuel:=5) (by kernel_rfl) (by simp) ?_
         refine AllReadyH.cons rfl (fun K hK=>?_) (AllReadyH.cons rfl (fun K hK=>?_) AllReadyH.nil)
         · go_simp
           refine hK.out _ _ hS (fun _=>?_)
           clear hK
           refine wpAnyH_ready (rs:=[16]) (fuel:=4) (by kernel_rfl) (by simp) ?_
           refine AllReadyH.cons rfl (fun K hK=>?_) AllReadyH.nil
           go_simp
           refine (CP.out _ ((Below.refl _ _).drew)).mono ?_
           rintro e t8 ⟨rfl,G8⟩
           have S2:=S1.below (Below.trans ((Below.refl _ _).drew) G8)
           have c1T:=S2.c1
           have hbT:=S2.hb
           have c9T:∀ o,(t8.alloc o).cell? ⟨C,1,none⟩=some (.slice p2 m q2):=(fun o=>(World.cell?_alloc_lt _ _ _ hbT).trans c1T)
           have hS8:=HSS.out _ S2.bel S2.c0
           refine hK.out _ _ hS8 (fun _=>?_)
           clear hK
           refine wpAnyH_ready (rs:=[17]) (fuel:=3) (by kernel_rfl) (by simp) ?_
           refine AllReadyH.cons rfl (fun K hK=>?_) AllReadyH.nil
           go_simp
           have SA:=S2.below ((Below.refl _ _).alloc (Nat.le_refl _) (.cells #[.string n0,.int .i64 n1,.int .i64 n2,.int .i64 n3,.string n4] 46 (0,0)))
           have hS9:=HSS.out _ SA.bel SA.c0
           refine hK.out _ _ hS9 (fun _=>?_)
           clear hK
           refine wpAnyH_ready (rs:=[18]) (fuel:=2) (by kernel_rfl) (by simp) ?_
           refine AllReadyH.cons rfl (fun K hK=>?_) AllReadyH.nil
           refine step_append_lies _ rfl _ _ 23 rfl w4.heap.size 46 j0 (.agg #[.string ⟨#[]⟩,.int .i64 0,.int .i64 0,.int .i64 0,.string ⟨#[]⟩]) 5 56 Tryz.underlying23 gi gz0 gz1 gz2 rfl (by decide) _ _ _ rfl (S2.o2.alloc _) ⟨t8.heap.size,0,none⟩ 1 1 [.string n0,.int .i64 n1,.int .i64 n2,.int .i64 n3,.string n4] rfl rfl (news5 _ _ _ _ _ _ _) (one5 _ _ _ _ _) (by decide) (by unfold maxLen;omega) (by omega) (by simp;omega) _ rfl ?_
           intro g7 cp7 t7 hown7 hgrow7 hat7 hlt7
           obtain ⟨⟨q1,q2⟩,S4⟩:=S2.put2 hgrow7 hown7 hat7
           have hM7:=S2.mid2 hgrow7
           have hS7:=HSS.out _ hM7.2 hM7.1
           clear hgrow7 hown7 hat7 hlt7 hM7
           refine hK.out _ _ hS7 (fun _=>?_)
           clear hK
           refine wpAnyH_ready (rs:=[19]) (fuel:=1) (by kernel_rfl) (by simp) ?_
           refine AllReadyH.cons rfl (fun K hK=>?_) AllReadyH.nil
           go_simp
           refine hK.out _ _ hS7 (fun _=>?_)
           clear hK
           refine wpAnyH_ready (rs:=[20]) (fuel:=0) (by kernel_rfl) (by simp) ?_
           refine AllReadyH.cons rfl (fun K hK=>?_) AllReadyH.nil
           go_simp
           refine hK.out _ _ (HSS.out _ S4.bel S4.c0) (fun _=>?_)
           clear hK
           refine ⟨by kernel_rfl,?_⟩
           go_wp2_with fail
           go_roundw
           case rel=>exact ⟨m+1,_,by omega,by go_num,by rw [HN];exact S4⟩
           case measure=>simp [intOf];omega
         · go_simp
           refine (CP.out _ ((Below.refl _ _).drew)).mono ?_
           rintro e t8 ⟨rfl,G8⟩
           have S2:=S1.below (Below.trans ((Below.refl _ _).drew) G8)
           have c1T:=S2.c1
           have hbT:=S2.hb
           have c9T:∀ o,(t8.alloc o).cell? ⟨C,1,none⟩=some (.slice p2 m q2):=(fun o=>(World.cell?_alloc_lt _ _ _ hbT).trans c1T)
           have hS8:=HSS.out _ S2.bel S2.c0
           refine hK.out _ _ hS8 (fun _=>?_)
           clear hK
           refine wpAnyH_ready (rs:=[1,17]) (fuel:=4) (by kernel_rfl) (by simp) ?_
           refine AllReadyH.cons rfl (fun K hK=>?_) (AllReadyH.cons rfl (fun K hK=>?_) AllReadyH.nil)
           · go_simp
             refine hK.out _ _ hS8 (fun _=>?_)
             clear hK
             refine wpAnyH_ready (rs:=[17]) (fuel:=3) (by kernel_rfl) (by simp) ?_
             refine AllReadyH.cons rfl (fun K hK=>?_) AllReadyH.nil
             go_simp
             have SA:=S2.below ((Below.refl _ _).alloc (Nat.le_refl _) (.cells #[.string n0,.int .i64 n1,.int .i64 n2,.int .i64 n3,.string n4] 46 (0,0)))
             have hS9:=HSS.out _ SA.bel SA.c0
             refine hK.out _ _ hS9 (fun _=>?_)
             clear hK
             refine wpAnyH_ready (rs:=[18]) (fuel:=2) (by kernel_rfl) (by simp) ?_
             refine AllReadyH.cons rfl (fun K hK=>?_) AllReadyH.nil
             refine step_append_lies _ rfl _ _ 23 rfl w4.heap.size 46 j0 (.agg #[.string ⟨#[]⟩,.int .i64 0,.int .i64 0,.int .i64 0,.string ⟨#[]⟩]) 5 56 Tryz.underlying23 gi gz0 gz1 gz2 rfl (by decide) _ _ _ rfl (S2.o2.alloc _) ⟨t8.heap.size,0,none⟩ 1 1 [.string n0,.int .i64 n1,.int .i64 n2,.int .i64 n3,.string n4] rfl rfl (news5 _ _ _ _ _ _ _) (one5 _ _ _ _ _) (by decide) (by unfold maxLen;omega) (by omega) (by simp;omega) _ rfl ?_
             intro g7 cp7 t7 hown7 hgrow7 hat7 hlt7
             obtain ⟨⟨q1,q2⟩,S4⟩:=S2.put2 hgrow7 hown7 hat7
             have hM7:=S2.mid2 hgrow7
             have hS7:=HSS.out _ hM7.2 hM7.1
             clear hgrow7 hown7 hat7 hlt7 hM7
             refine hK.out _ _ hS7 (fun _=>?_)
             clear hK
             refine wpAnyH_ready (rs:=[19]) (fuel:=1) (by kernel_rfl) (by simp) ?_
             refine AllReadyH.cons rfl (fun K hK=>?_) AllReadyH.nil
             go_simp
             refine hK.out _ _ hS7 (fun _=>?_)
             clear hK
             refine wpAnyH_ready (rs:=[20]) (fuel:=0) (by kernel_rfl) (by simp) ?_
             refine AllReadyH.cons rfl (fun K hK=>?_) AllReadyH.nil
             go_simp
             refine hK.out _ _ (HSS.out _ S4.bel S4.c0) (fun _=>?_)
             clear hK
             refine ⟨by kernel_rfl,?_⟩
             go_wp2_with fail
             go_roundw
             case rel=>exact ⟨m+1,_,by omega,by go_num,by rw [HN];exact S4⟩
             case measure=>simp [intOf];omega
           · go_simp
             have SA:=S2.below ((Below.refl _ _).alloc (Nat.le_refl _) (.cells #[.string n0,.int .i64 n1,.int .i64 n2,.int .i64 n3,.string n4] 46 (0,0)))
             have hS9:=HSS.out _ SA.bel SA.c0
             refine hK.out _ _ hS9 (fun _=>?_)
             clear hK
             refine wpAnyH_ready (rs:=[1]) (fuel:=3) (by kernel_rfl) (by simp) ?_
             refine AllReadyH.cons rfl (fun K hK=>?_) AllReadyH.nil
             go_simp
             refine hK.out _ _ hS9 (fun _=>?_)
             clear hK
             refine wpAnyH_ready (rs:=[18]) (fuel:=2) (by kernel_rfl) (by simp) ?_
             refine AllReadyH.cons rfl (fun K hK=>?_) AllReadyH.nil
             refine step_append_lies _ rfl _ _ 23 rfl w4.heap.size 46 j0 (.agg #[.string ⟨#[]⟩,.int .i64 0,.int .i64 0,.int .i64 0,.string ⟨#[]⟩]) 5 56 Tryz.underlying23 gi gz0 gz1 gz2 rfl (by decide) _ _ _ rfl (S2.o2.alloc _) ⟨t8.heap.size,0,none⟩ 1 1 [.string n0,.int .i64 n1,.int .i64 n2,.int .i64 n3,.string n4] rfl rfl (news5 _ _ _ _ _ _ _) (one5 _ _ _ _ _) (by decide) (by unfold maxLen;omega) (by omega) (by simp;omega) _ rfl ?_
             intro g7 cp7 t7 hown7 hgrow7 hat7 hlt7
             obtain ⟨⟨q1,q2⟩,S4⟩:=S2.put2 hgrow7 hown7 hat7
             have hM7:=S2.mid2 hgrow7
             have hS7:=HSS.out _ hM7.2 hM7.1
             clear hgrow7 hown7 hat7 hlt7 hM7
             refine hK.out _ _ hS7 (fun _=>?_)
             clear hK
             refine wpAnyH_ready (rs:=[19]) (fuel:=1) (by kernel_rfl) (by simp) ?_
             refine AllReadyH.cons rfl (fun K hK=>?_) AllReadyH.nil
             go_simp
             refine hK.out _ _ hS7 (fun _=>?_)
             clear hK
             refine wpAnyH_ready (rs:=[20]) (fuel:=0) (by kernel_rfl) (by simp) ?_
             refine AllReadyH.cons rfl (fun K hK=>?_) AllReadyH.nil
             go_simp
             refine hK.out _ _ (HSS.out _ S4.bel S4.c0) (fun _=>?_)
             clear hK
             refine ⟨by kernel_rfl,?_⟩
             go_wp2_with fail
             go_roundw
             case rel=>exact ⟨m+1,_,by omega,by go_num,by rw [HN];exact S4⟩
             case measure=>simp [intOf];omega
     · obtain rfl:m=k:=by omega
       have e2:decide ((m:Int)<(m:Int))=false:=by simp
       have ne9:=S1.ne
       have cc0:=S1.c0
       have cc1:=S1.c1
       have hC2:=S1.hb
       obtain ⟨Bz,Oz1,Oz2,Rz0,Rz1⟩:=put_end F4.b S1.o1 S1.o2 hzF F4.r0 F4.r1
       have hfin:=hQ1.out _ _ _ Oz1 Oz2 ne9 Bz
       obtain ⟨p2,q2,rfl,_⟩:=own_slice S1.o2
       clear S1 hQ1 Oz1 Oz2 Bz
       go_wp2_with fail
       generalize (wr.setCell ⟨w.heap.size+1,0,none⟩ (.slice (some ⟨g2,0,none⟩) (D+1) cp2)).setCell ⟨w.heap.size+1,1,none⟩ (.slice p2 m q2)=wz at *
       exact bodyPost_ret (v:=.tuple #[.agg #[.slice (some ⟨g2,0,none⟩) (D+1) cp2,.slice p2 m q2],.int .i64 0]) (by simp [results,Tryz.results28,go_sem,Rz0,Rz1]) rfl hfin
end Go.Proofs.YtbjbjbpgmojcbabGreat
namespace Go.Proofs.YtbjbjbpgmojcbabGreat
open Go.RowKit
theorem retrainOf_any (ad af:Option Addr) (cd cf:Nat) (a:Ar.A) (size:Int) (w:World) (h:ArV w ad af a) (hs:SaneA a) :
 Calls Tryz.prog 28 #[av ad cd af cf a,.int .i64 size] w fun e w'=>ArSaid w (Ar.retA a size) (Ar.retE a size) e w':=by
 by_cases hE:Ar.retE a size=0
 · rw [Ar.retA_is hE,hE]
   exact retrainOf_ok ad af cd cf a size w h hs hE
 · have e:Ar.retA a size=Ar.az:=by unfold Ar.retA;rw [if_neg hE]
   rw [e]
   by_cases hc:Ar.chk a=0
   · by_cases hz:0<=size/\size<=256
     · have h4:a.dicts.length=4:=by
        rcases Nat.lt_or_ge a.dicts.length 4 with h9 | h9
        · exfalso;apply hE;unfold Ar.retE;rw [if_neg (fun h8=>h8 hc),if_pos hz,if_neg (by omega)]
        · obtain ⟨m1,_,_⟩:=Ar.many_iff.1 (Ar.chk_zero.1 hc).1
          omega
       have e2:Ar.retE a size=2:=by unfold Ar.retE;rw [if_neg (fun h8=>h8 hc),if_pos hz,if_pos h4]
       rw [e2]
       exact retrainOf_full ad af cd cf a size w h hs hc hz h4
     · have e2:Ar.retE a size=3:=by unfold Ar.retE;rw [if_neg (fun h8=>h8 hc),if_neg hz]
       rw [e2]
       exact retrainOf_size ad af cd cf a size w h hs hc hz
   · have e2:Ar.retE a size=Ar.chk a:=by unfold Ar.retE;rw [if_pos hc]
     rw [e2]
     exact retrainOf_chk ad af cd cf a size w h hs hc
end Go.Proofs.YtbjbjbpgmojcbabGreat
namespace Go.Proofs.YtbjbjbpgmojcbabGreat
open Go.RowKit
theorem hid_of {p:Prop} (h:p):Hid p:=h
def Ar.anyK (fs:List Ar.F) (n:Int):Nat->Bool
 | 0=>false
 | k+1=>Ar.anyK fs n k || decide ((Ar.fa fs k).dict=n)
theorem anyK_is {fs:List Ar.F} {n:Int}:∀ {k:Nat},k<=fs.length->(Ar.anyK fs n k=(fs.take k).any fun f=>decide (f.dict=n))
 | 0,_=>by simp [Ar.anyK]
 | k+1,h=>by
  rw [Ar.anyK,anyK_is (by omega),Ar.take_succ' (by omega),List.any_append]
  simp
theorem anyK_used {a:Ar.A} {n:Int}:Ar.anyK a.files n a.files.length=Ar.used a n:=by
 rw [anyK_is (Nat.le_refl _),List.take_length];rfl
theorem fcs_get:∀ (fs:List Ar.F) (i r:Nat),i<fs.length->r<5->(fcs fs)[i*5+r]?=(fc (Ar.fa fs i))[r]?
 | f :: fs,0,r,_,hr=>by
  rw [fcs,List.getElem?_append_left (by simp;omega)]
  simp only [Nat.zero_mul,Nat.zero_add]
  rfl
 | f :: fs,i+1,r,h,hr=>by
  have ih:=fcs_get fs i r (by simpa using h) hr
  rw [fcs,List.getElem?_append_right (by simp;omega)]
  have e:(i+1)*5+r - ([.string f.name,.int .i64 f.dict,.int .i64 f.size,.int .i64 f.sum,.string f.blk]:List Value).length=i*5+r:=by simp;omega
  rw [e,ih]
  rfl
theorem FlSl.news {w:World} {ad:Option Addr} {l:List Ar.F} (h:FlSl w ad l):l.length=0\/∃ b,ad=some b/\∀ j u,(fcs l)[j]?=some u->w.cell? (b.add j)=some u:=by
 rcases h with rfl | ⟨b,off,rfl,_,h⟩
 · exact .inl rfl
 · refine .inr ⟨_,rfl,fun j u hj=>?_⟩
   rw [addr_off]
   have hl:j<l.length*5:=by
    rcases Nat.lt_or_ge j (l.length*5) with h9 | h9
    · exact h9
    · rw [List.getElem?_eq_none (by rw [fcs_len];exact h9)] at hj;cases hj
   have hi:j / 5<l.length:=by omega
   have e:j=j / 5*5+j % 5:=by omega
   have hr:j % 5<5:=by omega
   obtain ⟨c0,c1,c2,c3,c4⟩:=h (j / 5) hi
   rw [e,fcs_get l (j / 5) (j % 5) hi hr] at hj
   rw [e,<-Nat.add_assoc]
   generalize j / 5=i at *
   generalize j % 5=r at *
   match r,hr with
   | 0,_=>rw [Nat.add_zero,c0];exact hj
   | 1,_=>rw [c1];exact hj
   | 2,_=>rw [c2];exact hj
   | 3,_=>rw [c3];exact hj
   | 4,_=>rw [c4];exact hj
theorem cpF_none (a:Ar.A):a.files.map (Ar.cpF a 0)=a.files:=by
 conv=>rhs;rw [<-List.map_id a.files]
 refine List.map_congr_left (fun f _=>?_)
 unfold Ar.cpF
 rw [if_neg (by omega)]
 rfl
end Go.Proofs.YtbjbjbpgmojcbabGreat
namespace Go.Proofs.YtbjbjbpgmojcbabGreat
open Go.RowKit
theorem compactOf_chk (ad af:Option Addr) (cd cf:Nat) (a:Ar.A) (w:World) (h:ArV w ad af a) (hs:SaneA a) (hc:Ar.chk a ≠ 0) :
 Calls Tryz.prog 29 #[av ad cd af cf a] w fun e w'=>ArSaid w Ar.az (Ar.chk a) e w':=by
 have C1:Hid (∀ w',Below w.heap.size w w'->Calls Tryz.prog 19 #[av ad cd af cf a] w' fun e w2=>e=.returned (.int .i64 (Ar.chk a))/\Below w'.heap.size w' w2):=fun w' h9=>checkArch_any ad af cd cf a w' (h.below h9) hs
 have hQ:Hid (∀ w',Below w.heap.size w w'->ArSaid w Ar.az (Ar.chk a) (.returned (.tuple #[.agg #[.slice none 0 0,.slice none 0 0],.int .i64 (Ar.chk a)])) w'):=fun w' h9=>said_nil h9
 generalize ArSaid w Ar.az (Ar.chk a)=Q at *
 unfold av at C1 |-
 generalize Ar.chk a=E at *
 have e1:(E != 0)=true:=by simpa using hc
 have e2:(E == 0)=false:=by simpa using hc
 generalize a.dicts.length=D at *
 generalize a.files.length=N at *
 clear h hs hc
 go_enter Tryz.func29,Tryz.ntmps29
 go_wp2_with fail
 refine (C1.out _ (Fr.start w _ _).b).mono ?_
 rintro e w1 ⟨rfl,G1⟩
 have F1:=(Fr.start w _ _).next G1
 clear G1
 obtain ⟨b,a0,a1,r0,r1,z0,z1,hz⟩:=id F1
 go_wp2_with fail
 rw [F1.zero]
 exact bodyPost_ret (v:=.tuple #[.agg #[.slice none 0 0,.slice none 0 0],.int .i64 E]) (by simp [results,Tryz.results29,go_sem,F1.r0,F1.r1]) rfl (hQ.out _ F1.b)
theorem compactOf_ok (ad af:Option Addr) (cd cf:Nat) (a:Ar.A) (w:World) (h:ArV w ad af a) (hs:SaneA a) (hc:Ar.chk a=0) :
 Calls Tryz.prog 29 #[av ad cd af cf a] w fun e w'=>ArSaid w ⟨Ar.cpD a a.dicts.length,a.files.map (Ar.cpF a a.dicts.length)⟩ 0 e w':=by
 obtain ⟨i0,hi,hz0,hz1,hz2⟩:=info_parts (P:=Tryz.prog) (e:=9) (z:=.string ⟨#[]⟩) (size:=1) (bytes:=16) (by kernel_rfl)
 obtain ⟨j0,gi,gz0,gz1,gz2⟩:=info_parts (P:=Tryz.prog) (e:=46) (z:=.agg #[.string ⟨#[]⟩,.int .i64 0,.int .i64 0,.int .i64 0,.string ⟨#[]⟩]) (size:=5) (bytes:=56) (by kernel_rfl)
 obtain ⟨m1,m2,m3⟩:=Ar.many_iff.1 (Ar.chk_zero.1 hc).1
 have C1:Hid (∀ w',Below w.heap.size w w'->Calls Tryz.prog 19 #[av ad cd af cf a] w' fun e w2=>e=.returned (.int .i64 (Ar.chk a))/\Below w'.heap.size w' w2):=fun w' h9=>checkArch_any ad af cd cf a w' (h.below h9) hs
 have HX:Hid (∀ w',Below w.heap.size w w'->∀ k,k<a.dicts.length->∃ b off,ad=some ⟨b,off,none⟩/\b<w'.heap.size/\w'.cell? ⟨b,off+k,none⟩=some (.string (Tr.xa a.dicts k))):=fun w' hb k hk=>(h.ds.below hb).at hk
 have HFl:Hid (∀ w',Below w.heap.size w w'->∀ k,k<a.files.length->∃ b off,af=some ⟨b,off,none⟩/\b<w'.heap.size/\w'.cell? ⟨b,off+k*5+1,none⟩=some (.int .i64 (Ar.fa a.files k).dict)):=fun w' h9 k hk=>by
  obtain ⟨b,off,h1,h2,h3⟩:=(h.fs.below h9).at hk
  exact ⟨b,off,h1,h2,h3.c1⟩
 have HFn:Hid (∀ w',Below w.heap.size w w'->(a.files.length=0\/∃ b,af=some b/\∀ j u,(fcs a.files)[j]?=some u->w'.cell? (b.add j)=some u)):=fun w' h9=>(h.fs.below h9).news
 have HF1:Hid ((fcs a.files).length=a.files.length*5):=fcs_len _
 have HF2:Hid (∀ u ∈ fcs a.files,u.oneCell'=true):=fcs_one _
 rw [hc] at C1
 unfold av at C1 |-
 obtain ⟨D,hD⟩:∃ D,a.dicts.length=D:=⟨_,rfl⟩
 obtain ⟨N,hN⟩:∃ N,a.files.length=N:=⟨_,rfl⟩
 have HNN:Hid (a.files.length=N):=hN
 rw [hD] at C1 HX m1 |-
 rw [hN] at C1 HFl HFn HF1 m2 |-
 have hQ:Hid (∀ v1 v2 w',w'.ownsRow w.heap.size 9 1 v1 (Ar.cpD a D).length ((Ar.cpD a D).map Value.string)->w'.ownsRow w.heap.size 46 5 v2 N (fcs (a.files.map (Ar.cpF a D)))->(∀ j,v1.ownBlock=some j->v2.ownBlock ≠ some j)->Below w.heap.size w w'->ArSaid w ⟨Ar.cpD a D,a.files.map (Ar.cpF a D)⟩ 0 (.returned (.tuple #[.agg #[v1,v2],.int .i64 0])) w'):=fun v1 v2 w' k1 k2 k3 k4=>⟨v1,v2,rfl,⟨k1,by show w'.ownsRow _ _ _ _ (a.files.map (Ar.cpF a D)).length _;rw [List.length_map,hN];exact k2,k3⟩,k4⟩
 generalize ArSaid w ⟨Ar.cpD a D,a.files.map (Ar.cpF a D)⟩ 0=Q at *
 have HI0:Hid (∀ k,fcs (a.files.map (Ar.cpF a k))=fcs (Ar.cpI a k 0)):=fun k=>by rw [Ar.cpI_zero]
 have HIN:Hid (∀ k,fcs (Ar.cpI a k N)=fcs (a.files.map (Ar.cpF a (k+1)))):=fun k=>by rw [<-hN,Ar.cpI_end]
 have H0:Hid (fcs (a.files.map (Ar.cpF a 0))=fcs a.files):=by show _=_;rw [cpF_none]
 clear h hs hc m3 hD hN
 have hDi:(D:Int)<=4:=by omega
 have hNi:(N:Int)<=12:=by omega
 generalize hFS:fcs a.files=FS at *
 clear hFS
 go_enter Tryz.func29,Tryz.ntmps29
 go_wp2_with fail
 refine (C1.out _ (Fr.start w _ _).b).mono ?_
 rintro e w3 ⟨rfl,G1⟩
 have F1:=(Fr.start w _ _).next G1
 clear G1 C1
 obtain ⟨b,a0,a1,r0,r1,z0,z1,hz⟩:=id F1
 have hz9:w.heap.size<w3.heap.size:=by omega
 have O0:=own_empty w3 w3.heap.size 46 5 (Nat.le_refl _)
 have hD2:=HFn.out _ (F1.b.alloc (by have:=F1.b.size;omega) (.cells #[] 46 (0,0)))
 have hds1:=HF1.out
 have hds2:=HF2.out
 go_wp2_with (first
  | (at_builtin;refine wpList_append_all rfl _ _ 23 rfl w3.heap.size 46 j0 (.agg #[.string ⟨#[]⟩,.int .i64 0,.int .i64 0,.int .i64 0,.string ⟨#[]⟩]) 5 56 Tryz.underlying23 gi gz0 gz1 gz2 rfl (by decide) w3.heap.size 0 0 [] rfl O0 af N cf FS rfl hds1 hD2 hds2 (by unfold maxLen;omega) (by omega) (by simp) _ rfl ?_;intro g2 cp2 w5 hown5 hgrow5 hat5)
  | fail)
 have BX:Below w3.heap.size w3 w5:=((Below.refl _ _).alloc (Nat.le_refl _) _).grown hgrow5 (by simp) (fun j hj=>by simp at hj;omega)
 simp only [Nat.zero_add,List.nil_append] at hown5 |-
 have S0:=CpS.new2 BX BX.size hown5
 clear O0 hD2 hds1 hds2 hgrow5 hat5 hown5 HFn HF1 HF2 BX a0 a1 r0 r1 z0 z1 b
 generalize (w5.alloc (.cells #[.slice none 0 0,.slice (some ⟨g2,0,none⟩) N cp2] 25 (0,0)))=w6 at *
 generalize w5.heap.size=C at *
 go_loopw [6] (fun i wr=>∃ (k:Nat) (v1:Value),k<=D/\i=.int .i64 ((k:Int)+1)/\CpS w3 wr C w3.heap.size v1 (.slice (some ⟨g2,0,none⟩) N cp2) (Ar.cpD a k).length N ((Ar.cpD a k).map Value.string) (fcs (a.files.map (Ar.cpF a k)))) (fun i _=>D+1 - (intOf i).toNat)
 case atStart=>exact ⟨0,_,by omega,rfl,by rw [H0.out];exact S0⟩
 case round =>
  clear S0
  obtain ⟨k,v1,hk2,rfl,S1⟩:=hrel
  have F7:=F1.keep S1.bel hz
  obtain ⟨B7,a0,a1,r0,r1,z0,z1,hz7⟩:=id F7
  by_cases hlt:k<D
  · have d1:decide ((k:Int)+1<=(D:Int))=true:=decide_eq_true (by omega)
    have hki:(k:Int)+1<=(D:Int):=by omega
    have hkD:(k:Int)<(D:Int):=by omega
    have hwk2:IntKind.i64.wrap (k:Int)=(k:Int):=IntWalk.i64_in _ ⟨by omega,by omega⟩
    have hwk:IntKind.i64.wrap ((k:Int)+1 - 1)=(k:Int):=by rw [show (k:Int)+1 - 1=(k:Int) by omega];exact IntWalk.i64_in _ ⟨by omega,by omega⟩
    obtain ⟨b9,off,rfl,hbl,hc⟩:=HX.out wr B7 k hlt
    generalize hX:Tr.xa a.dicts k=X at *
    have HXX:Hid (Tr.xa a.dicts k=X):=hX
    clear hX
    have HAk:Hid (∀ m,Ar.anyK a.files ((k:Int)+1) (m+1)=(Ar.anyK a.files ((k:Int)+1) m || decide ((Ar.fa a.files m).dict=(k:Int)+1))):=fun m=>rfl
    have HA0:Hid (Ar.anyK a.files ((k:Int)+1) 0=false):=rfl
    have HAN:Hid (Ar.anyK a.files ((k:Int)+1) N=Ar.used a ((k+1:Nat):Int)):=by show _=_;rw [<-HNN.out];exact anyK_used
    generalize Ar.anyK a.files ((k:Int)+1)=ak at *
    go_wp2_with fail
    generalize hwr:wr=wk at *
    clear hwr
    go_loopw [7,8] (fun u i w'=>∃ m:Nat,m<=N/\u=.bool (ak m)/\i=.int .i64 m/\w'=wk) (fun _ i _=>N - (intOf i).toNat)
    case atStart=>exact ⟨0,by omega,by rw [HA0.out],rfl,rfl⟩
    case round =>
     obtain ⟨m,hm2,rfl,rfl,hwr⟩:=hrel
     have hwr:=hwr.symm
     subst hwr
     by_cases hlm:m<N
     · have d2:decide ((m:Int)<(N:Int))=true:=decide_eq_true (by omega)
       have d2':decide (m<N)=true:=decide_eq_true hlm
       have hmi:(m:Int)<(N:Int):=by omega
       obtain ⟨bf,of,rfl,hbf,c1⟩:=HFl.out _ B7 m hlm
       have HAm:=hid_of (HAk.out m)
       generalize (Ar.fa a.files m).dict=f1 at *
       cases hu:ak m with
       | true =>
        have HN:Hid (ak (m+1)=true):=by show _=_;rw [HAm.out,hu];rfl
        clear hu HAm
        go_wp2_with fail
        go_roundw
        case rel=>exact ⟨m+1,by omega,by rw [HN.out],by go_num,by trivial⟩
        case measure=>simp [intOf];omega
       | false =>
        by_cases hdx:f1=(k:Int)+1
        · have HN:Hid (ak (m+1)=true):=by show _=_;rw [HAm.out,hu,decide_eq_true hdx];rfl
          subst hdx
          clear hu HAm
          go_wp2_with fail
          go_roundw
          case rel=>exact ⟨m+1,by omega,by rw [HN.out],by go_num,by trivial⟩
          case measure=>simp [intOf];omega
        · have HN:Hid (ak (m+1)=false):=by show _=_;rw [HAm.out,hu,decide_eq_false hdx];rfl
          have e1:(f1 == ((k:Int)+1))=false:=by simpa using hdx
          clear hu HAm
          go_wp2_with fail
          go_roundw
          case rel=>exact ⟨m+1,by omega,by rw [HN.out],by go_num,by trivial⟩
          case measure=>simp [intOf];omega
     · obtain rfl:m=N:=by omega
       have d2:decide ((m:Int)<(m:Int))=false:=by simp
       have hak:=HAN.out
       rw [hak]
       clear hak HAk HA0 HAN
       cases hu:Ar.used a ((k+1:Nat):Int) with
       | false =>
        obtain ⟨e1,e2⟩:=Ar.cp_skip hu
        have HE1:Hid (Ar.cpD a (k+1)=Ar.cpD a k):=e1
        have HE2:Hid (a.files.map (Ar.cpF a (k+1))=a.files.map (Ar.cpF a k)):=e2
        clear e1 e2 hu
        go_wp2_with fail
        go_roundw
        case rel=>exact ⟨k+1,v1,by omega,by go_num,by rw [HE1.out,HE2.out];exact S1⟩
        case measure=>simp [intOf];omega
       | true =>
        have HE1:Hid (Ar.cpD a (k+1)=Ar.cpD a k++[X]):=by show _=_;rw [Ar.cp_take hu,HXX.out]
        clear hu
        obtain ⟨L,hL⟩:∃ L,(Ar.cpD a k).length=L:=⟨_,rfl⟩
        have hL4:L<=4:=by
         have e1:=Ar.cpD_len a k
         have e2:=Ar.rkK_le a k
         omega
        have HL1:Hid ((Ar.cpD a (k+1)).length=L+1):=by show _=_;rw [HE1.out,List.length_append,hL];rfl
        have HM1:Hid ((Ar.cpD a (k+1)).map Value.string=(Ar.cpD a k).map Value.string++[.string X]):=by show _=_;rw [HE1.out,List.map_append];rfl
        have HY:Hid (∀ q,q<m->(Ar.fa a.files q).dict=(k:Int)+1->fcs (Ar.cpI a k (q+1))=fcs ((Ar.cpI a k q).take q++{ Ar.fa (Ar.cpI a k q) q with dict:=(L:Int)+1 } :: (Ar.cpI a k q).drop (q+1))):=fun q h1 h2=>by
         have e:((Ar.rkK a (k+1):Nat):Int)=(L:Int)+1:=by rw [<-Ar.cpD_len,HL1.out];rfl
         rw [Ar.cpI_yes (by rw [HNN.out];exact h1) h2,e]
        have HNo:Hid (∀ q,q<m->(Ar.fa a.files q).dict ≠ (k:Int)+1->fcs (Ar.cpI a k (q+1))=fcs (Ar.cpI a k q)):=fun q h1 h2=>by rw [Ar.cpI_no (by rw [HNN.out];exact h1) h2]
        have HIl:Hid (∀ q,q<m->(Ar.cpI a k q).length=m):=fun q h1=>by rw [Ar.cpI_len (by rw [HNN.out];omega),HNN.out]
        have HINk:Hid (fcs (Ar.cpI a k m)=fcs (a.files.map (Ar.cpF a (k+1)))):=HIN.out k
        rw [hL,HI0.out] at S1
        clear hL HE1 HXX
        have c0S:=S1.c0
        have f0S:=S1.f0
        have hbC:=S1.hb
        have hlC:=S1.hC
        have hLi:(L:Int)<=4:=by omega
        generalize (Ar.cpD a k).map Value.string=XS at *
        obtain ⟨p1,q1,rfl,_⟩:=own_slice S1.o1
        have S9:=S1.below ((Below.refl _ _).drew)
        go_wp2_with fail
        go_region_law (first
         | (refine step_append_lies _ rfl _ _ 22 rfl w3.heap.size 9 i0 (.string ⟨#[]⟩) 1 16 Tryz.underlying22 hi hz0 hz1 hz2 rfl (by decide) _ _ _ rfl (S9.o1.alloc _) ⟨wk.drew.heap.size,0,none⟩ 1 1 [.string X] rfl rfl (cell_one_new _ _ _) (by simp [Value.oneCell']) (by decide) (by unfold maxLen;omega) (by omega) (by simp;omega) _ rfl ?_;intro g cp t5 hown5 hgrow5 hat5 hlt5;obtain ⟨⟨⟨qq1,qq2⟩,S5⟩,_⟩:=S9.put1 hgrow5 hown5 hat5;clear hgrow5 hown5 hat5 hlt5))
        all_goals
         clear S1 S9 c0S f0S hbC hlC qq1 qq2 a0 a1 r0 r1 z0 z1 F7 hz7 hc hbl B7
         generalize (t5.setCell ⟨C,0,none⟩ (.slice (some ⟨g,0,none⟩) (L+1) cp))=wq at *
         have Fq:=F1.keep S5.bel hz
         have a1:=Fq.a1
         clear Fq
         go_wp2_with fail
         clear a1
         go_loopw [9] (fun i w'=>∃ q:Nat,q<=m/\i=.int .i64 q/\CpS w3 w' C w3.heap.size (.slice (some ⟨g,0,none⟩) (L+1) cp) (.slice (some ⟨g2,0,none⟩) m cp2) (L+1) m (XS++[.string X]) (fcs (Ar.cpI a k q))) (fun i _=>m - (intOf i).toNat)
         case atStart=>exact ⟨0,by omega,rfl,S5⟩
         case round =>
          clear S5
          obtain ⟨q,hq2,rfl,S6⟩:=hrel
          have F8:=F1.keep S6.bel hz
          obtain ⟨B8,a0,a1,r0,r1,z0,z1,hz8⟩:=id F8
          by_cases hlq:q<m
          · have d3:decide ((q:Int)<(m:Int))=true:=decide_eq_true (by omega)
            have d3':decide (q<m)=true:=decide_eq_true hlq
            have hqi:(q:Int)<(m:Int):=by omega
            obtain ⟨bf,of,rfl,hbf,c1⟩:=HFl.out _ B8 q hlq
            have hIl:=HIl.out q hlq
            by_cases hd:(Ar.fa a.files q).dict=(k:Int)+1
            · have HE:=hid_of (HY.out q hlq hd)
              rw [<-hIl] at S6
              obtain ⟨S8,t1,t2⟩:=CpS.set1 ((L:Int)+1) S6 (i:=q) (by omega)
              have c0:=S6.c0
              have c1':=S6.c1
              rw [hIl] at c1' S8
              have e1:((Ar.fa a.files q).dict == ((k:Int)+1))=true:=by simpa using hd
              generalize (Ar.fa a.files q).dict=f1 at *
              subst hd
              clear S6 hIl
              go_wp2_with fail
              go_roundw
              case rel=>exact ⟨q+1,by omega,by go_num,by rw [HE.out];exact S8⟩
              case measure=>simp [intOf];omega
            · have HE:=hid_of (HNo.out q hlq hd)
              have e1:((Ar.fa a.files q).dict == ((k:Int)+1))=false:=by simpa using hd
              generalize (Ar.fa a.files q).dict=f1 at *
              clear hIl
              go_wp2_with fail
              go_roundw
              case rel=>exact ⟨q+1,by omega,by go_num,by rw [HE.out];exact S6⟩
              case measure=>simp [intOf];omega
          · obtain rfl:q=m:=by omega
            have d3:decide ((q:Int)<(q:Int))=false:=by simp
            rw [HINk.out,<-HM1.out,<-HL1.out] at S6
            go_wp2_with fail
            go_roundw
            case rel=>exact ⟨k+1,_,by omega,by go_num,S6⟩
            case measure=>simp [intOf];omega
  · obtain rfl:k=D:=by omega
    have d1:decide ((k:Int)+1<=(k:Int))=false:=decide_eq_false (by omega)
    obtain ⟨Bz,Oz1,Oz2,Rz0,Rz1⟩:=put_end F7.b S1.o1 S1.o2 hz F7.r0 F7.r1
    have hfin:=hQ.out _ _ _ Oz1 Oz2 S1.ne Bz
    obtain ⟨pp,qq,rfl,_⟩:=own_slice S1.o1
    have c0:=S1.c0
    have c1:=S1.c1
    have hC2:=S1.hb
    clear S1 Oz1 Oz2 Bz hQ
    go_wp2_with fail
    generalize (wr.setCell ⟨w.heap.size+1,0,none⟩ (.slice pp (Ar.cpD a k).length qq)).setCell ⟨w.heap.size+1,1,none⟩ (.slice (some ⟨g2,0,none⟩) N cp2)=wz at *
    exact bodyPost_ret (v:=.tuple #[.agg #[.slice pp (Ar.cpD a k).length qq,.slice (some ⟨g2,0,none⟩) N cp2],.int .i64 0]) (by simp [results,Tryz.results29,go_sem,Rz0,Rz1]) rfl hfin
theorem compactOf_any (ad af:Option Addr) (cd cf:Nat) (a:Ar.A) (w:World) (h:ArV w ad af a) (hs:SaneA a) :
 Calls Tryz.prog 29 #[av ad cd af cf a] w fun e w'=>ArSaid w (Ar.cmpA a) (Ar.chk a) e w':=by
 by_cases hc:Ar.chk a=0
 · rw [Ar.cmpA_is hc,hc]
   exact compactOf_ok ad af cd cf a w h hs hc
 · have e:Ar.cmpA a=Ar.az:=by unfold Ar.cmpA;rw [if_neg hc]
   rw [e]
   exact compactOf_chk ad af cd cf a w h hs hc
end Go.Proofs.YtbjbjbpgmojcbabGreat
namespace Go.Proofs.YtbjbjbpgmojcbabGreat
open Go.RowKit
theorem same_any (ad af ad' af':Option Addr) (cd cf cd' cf':Nat) (a:Ar.A) (w:World) (h:ArV w ad af a) (h':ArV w ad' af' a) (hD:a.dicts.length<=8796093022208) (hN:a.files.length<=8796093022208) :
 Calls Tryz.prog 20 #[av ad cd af cf a,av ad' cd' af' cf' a] w fun e w'=>e=.returned (.bool true)/\Below w.heap.size w w':=by
 have hb:=fun o p=>((Below.refl w.heap.size w).alloc (Nat.le_refl _) o).alloc (by simp) p
 have HX:Hid (∀ w',Below w.heap.size w w'->∀ k,k<a.dicts.length->∃ b off,ad=some ⟨b,off,none⟩/\b<w'.heap.size/\w'.cell? ⟨b,off+k,none⟩=some (.string (Tr.xa a.dicts k))):=fun w' hb k hk=>(h.ds.below hb).at hk
 have HX':Hid (∀ w',Below w.heap.size w w'->∀ k,k<a.dicts.length->∃ b off,ad'=some ⟨b,off,none⟩/\b<w'.heap.size/\w'.cell? ⟨b,off+k,none⟩=some (.string (Tr.xa a.dicts k))):=fun w' hb k hk=>(h'.ds.below hb).at hk
 have HF:Hid (∀ w',Below w.heap.size w w'->∀ k,k<a.files.length->∃ b off,af=some ⟨b,off,none⟩/\b<w'.heap.size/\FlC w' b (off+k*5) (Ar.fa a.files k)):=fun w' h9 k hk=>(h.fs.below h9).at hk
 have HF':Hid (∀ w',Below w.heap.size w w'->∀ k,k<a.files.length->∃ b off,af'=some ⟨b,off,none⟩/\b<w'.heap.size/\FlC w' b (off+k*5) (Ar.fa a.files k)):=fun w' h9 k hk=>(h'.fs.below h9).at hk
 unfold av
 clear h h'
 generalize a.dicts.length=D at *
 generalize a.files.length=N at *
 have hDi:(D:Int)<=8796093022208:=by omega
 have hNi:(N:Int)<=8796093022208:=by omega
 go_enter Tryz.func20,Tryz.ntmps20
 go_wp2_with fail
 obtain ⟨k1,k2⟩:=box2 w #[.slice ad D cd,.slice af N cf] #[.slice ad' D cd',.slice af' N cf'] 25 25
 have B1:=hb (.cells #[.slice ad D cd,.slice af N cf] 25 (0,0)) (.cells #[.slice ad' D cd',.slice af' N cf'] 25 (0,0))
 generalize ((w.alloc (.cells #[.slice ad D cd,.slice af N cf] 25 (0,0))).alloc (.cells #[.slice ad' D cd',.slice af' N cf'] 25 (0,0)))=w1 at *
 have a0:w1.cell? ⟨w.heap.size,0,none⟩=some (.slice ad D cd):=k1 0
 have a1:w1.cell? ⟨w.heap.size,1,none⟩=some (.slice af N cf):=k1 1
 have b0:w1.cell? ⟨w.heap.size+1,0,none⟩=some (.slice ad' D cd'):=k2 0
 have b1:w1.cell? ⟨w.heap.size+1,1,none⟩=some (.slice af' N cf'):=k2 1
 clear k1 k2
 go_loopw [5] (fun i wr=>∃ k:Nat,k<=D/\i=.int .i64 k/\(∀ p,wr.cell? p=w1.cell? p)/\Below w.heap.size w wr) (fun i _=>D - (intOf i).toNat)
 case atStart=>exact ⟨0,by omega,rfl,fun _=>rfl,B1⟩
 case round =>
  obtain ⟨k,hk2,rfl,hsame,B2⟩:=hrel
  have a0':=(hsame _).trans a0
  have b0':=(hsame _).trans b0
  have a1':=(hsame _).trans a1
  have b1':=(hsame _).trans b1
  by_cases hlt:k<D
  · have d1:decide ((k:Int)<(D:Int))=true:=by simp;omega
    have d1':decide (k<D)=true:=by simp;omega
    have hki:(k:Int)<(D:Int):=by omega
    obtain ⟨b,off,rfl,hbl,hc⟩:=HX.out wr B2 k hlt
    obtain ⟨b',off',rfl,hbl',hc'⟩:=HX'.out wr B2 k hlt
    have HSm:Hid (∀ p,wr.cell? p=w1.cell? p):=hsame
    clear hsame
    generalize Tr.xa a.dicts k=X at *
    go_wp2_with fail
    go_region
    all_goals
     go_wp2_with fail
     go_roundw
     case rel=>exact ⟨k+1,by omega,by go_num,fun p=>HSm.out p,B2.drew⟩
     case measure=>simp [intOf];omega
  · obtain rfl:k=D:=by omega
    have d1:decide ((k:Int)<(k:Int))=false:=by simp
    have HSm:Hid (∀ p,wr.cell? p=w1.cell? p):=hsame
    clear hsame
    go_wp2_with fail
    go_loopw [6] (fun i w2=>∃ m:Nat,m<=N/\i=.int .i64 m/\(∀ p,w2.cell? p=w1.cell? p)/\Below w.heap.size w w2) (fun i _=>N - (intOf i).toNat)
    case atStart=>exact ⟨0,by omega,rfl,HSm.out,B2⟩
    case round =>
     obtain ⟨m,hm2,rfl,hsame2,B3⟩:=hrel
     have a2:=(hsame2 _).trans a1
     have b2:=(hsame2 _).trans b1
     have HSm2:Hid (∀ p,World.cell? _ p=w1.cell? p):=hsame2
     clear hsame2 a0' b0' a1' b1'
     by_cases hlt:m<N
     · have d2:decide ((m:Int)<(N:Int))=true:=by simp;omega
       have d2':decide (m<N)=true:=by simp;omega
       have hmi:(m:Int)<(N:Int):=by omega
       obtain ⟨b,off,rfl,hbl,hcell⟩:=HF.out _ B3 m hlt
       obtain ⟨c0,c1,c2,c3,c4⟩:=hcell
       obtain ⟨b',off',rfl,hbl',hcell'⟩:=HF'.out _ B3 m hlt
       obtain ⟨e0,e1,e2,e3,e4⟩:=hcell'
       generalize (Ar.fa a.files m).name=f0 at *
       generalize (Ar.fa a.files m).dict=f1 at *
       generalize (Ar.fa a.files m).size=f2 at *
       generalize (Ar.fa a.files m).sum=f3 at *
       generalize (Ar.fa a.files m).blk=f4 at *
       go_wp2_with fail
       go_region
       all_goals
        go_wp2_with fail
        go_roundw
        case rel=>exact ⟨m+1,by omega,by go_num,fun p=>HSm2.out p,B3.drew⟩
        case measure=>simp [intOf];omega
     · obtain rfl:m=N:=by omega
       have d2:decide ((m:Int)<(m:Int))=false:=by simp
       go_wp2_with fail
       go_ret
       exact ⟨rfl,B3⟩
end Go.Proofs.YtbjbjbpgmojcbabGreat
namespace Go.Proofs.YtbjbjbpgmojcbabGreat
open Go.RowKit
theorem sizeOf_any (ad af:Option Addr) (cd cf:Nat) (a:Ar.A) (w:World) (h:ArV w ad af a) (hs:SaneA a) (hc:Ar.chk a=0) :
 Calls Tryz.prog 30 #[av ad cd af cf a] w fun e w'=>e=.returned (.int .i64 (Ar.sz a:Nat))/\Below w.heap.size w w':=by
 have hb:=fun o=>(Below.refl w.heap.size w).alloc (Nat.le_refl _) o
 obtain ⟨m1,m2,m3⟩:=Ar.many_iff.1 (Ar.chk_zero.1 hc).1
 have HX:Hid (∀ w',Below w.heap.size w w'->∀ k,k<a.dicts.length->∃ b off,ad=some ⟨b,off,none⟩/\b<w'.heap.size/\w'.cell? ⟨b,off+k,none⟩=some (.string (Tr.xa a.dicts k))):=fun w' hb k hk=>(h.ds.below hb).at hk
 have HFl:Hid (∀ w',Below w.heap.size w w'->∀ k,k<a.files.length->∃ b off,af=some ⟨b,off,none⟩/\b<w'.heap.size/\FlC w' b (off+k*5) (Ar.fa a.files k)):=fun w' h9 k hk=>(h.fs.below h9).at hk
 have HD:Hid (∀ k,Ar.szD a.dicts (k+1)=Ar.szD a.dicts k+(Tr.xa a.dicts k).size):=fun k=>rfl
 have HF:Hid (∀ k,Ar.szF a.files (k+1)=Ar.szF a.files k+(Ar.fa a.files k).blk.size):=fun k=>rfl
 have HDl:Hid (∀ k,Ar.szD a.dicts k<=k*140737488355328):=fun k=>Ar.szD_le hs.ds k
 have HFL:Hid (∀ k,Ar.szF a.files k<=k*140737488355328):=fun k=>Ar.szF_le hs.bk k
 have HZ:Hid (∀ k,(Tr.xa a.dicts k).size<=140737488355328/\(Ar.fa a.files k).blk.size<=140737488355328):=fun k=>⟨hs.ds k,hs.bk k⟩
 have h0:Hid (Ar.szD a.dicts 0=0/\Ar.szF a.files 0=0):=⟨rfl,rfl⟩
 have HS:Hid (Ar.sz a=Ar.szD a.dicts a.dicts.length+Ar.szF a.files a.files.length):=rfl
 generalize Ar.sz a=SZ at *
 generalize Ar.szD a.dicts=sd at *
 generalize Ar.szF a.files=sf at *
 unfold av
 clear h hs hc m3
 generalize a.dicts.length=D at *
 generalize a.files.length=N at *
 have hDi:(D:Int)<=4:=by omega
 have hNi:(N:Int)<=12:=by omega
 go_enter Tryz.func30,Tryz.ntmps30
 go_wp2_with fail
 have a0:(w.alloc (.cells #[.slice ad D cd,.slice af N cf] 25 (0,0))).cell? ⟨w.heap.size,0,none⟩=some (.slice ad D cd):=World.cell?_alloc_new _ _ _ 0
 have a1:(w.alloc (.cells #[.slice ad D cd,.slice af N cf] 25 (0,0))).cell? ⟨w.heap.size,1,none⟩=some (.slice af N cf):=World.cell?_alloc_new _ _ _ 1
 have B1:=hb (.cells #[.slice ad D cd,.slice af N cf] 25 (0,0))
 generalize (w.alloc (.cells #[.slice ad D cd,.slice af N cf] 25 (0,0)))=w1 at *
 go_loopw [3,4] (fun n i wr=>∃ k:Nat,k<=D/\n=.int .i64 (sd k:Nat)/\i=.int .i64 k/\wr=w1) (fun _ i _=>D - (intOf i).toNat)
 case atStart=>exact ⟨0,by omega,by rw [h0.out.1];rfl,rfl,rfl⟩
 case round =>
  obtain ⟨k,hk2,rfl,rfl,rfl⟩:=hrel
  by_cases hlt:k<D
  · have d1:decide ((k:Int)<(D:Int))=true:=by simp;omega
    have d1':decide (k<D)=true:=by simp;omega
    have hki:(k:Int)<(D:Int):=by omega
    obtain ⟨b,off,rfl,hbl,hcell⟩:=HX.out wr B1 k hlt
    have e1:=HD.out k
    have e2:=HDl.out k
    have e3:=(HZ.out k).1
    generalize Tr.xa a.dicts k=X at *
    generalize hsk:sd k=s0 at *
    clear hsk
    have hw:IntKind.i64.wrap ((s0:Int)+(X.size:Int))=(s0:Int)+(X.size:Int):=IntWalk.i64_in _ ⟨by omega,by omega⟩
    go_wp2_with fail
    go_roundw
    case rel=>exact ⟨k+1,by omega,by rw [e1];go_num,by go_num,by trivial⟩
    case measure=>simp [intOf];omega
  · obtain rfl:k=D:=by omega
    have d1:decide ((k:Int)<(k:Int))=false:=by simp
    have e2:=HDl.out k
    generalize sd k=s0 at *
    go_wp2_with fail
    go_loopw [3,5] (fun n i w2=>∃ m:Nat,m<=N/\n=.int .i64 ((s0+sf m:Nat):Int)/\i=.int .i64 m/\w2=wr) (fun _ i _=>N - (intOf i).toNat)
    case atStart=>exact ⟨0,by omega,by rw [h0.out.2];rfl,rfl,rfl⟩
    case round =>
     obtain ⟨m,hm2,rfl,rfl,hwr⟩:=hrel
     subst hwr
     by_cases hlt:m<N
     · have d2:decide ((m:Int)<(N:Int))=true:=by simp;omega
       have d2':decide (m<N)=true:=by simp;omega
       have hmi:(m:Int)<(N:Int):=by omega
       obtain ⟨b,off,rfl,hbl,hcell⟩:=HFl.out _ B1 m hlt
       obtain ⟨c0,c1,c2,c3,c4⟩:=hcell
       have e1:=HF.out m
       have e4:=HFL.out m
       have e3:=(HZ.out m).2
       generalize (Ar.fa a.files m).blk=f4 at *
       obtain ⟨t0,ht0⟩:∃ t0,t0=s0+sf m:=⟨_,rfl⟩
       rw [<-ht0]
       have hw:IntKind.i64.wrap ((t0:Int)+(f4.size:Int))=(t0:Int)+(f4.size:Int):=IntWalk.i64_in _ ⟨by omega,by omega⟩
       have HT:Hid (s0+sf (m+1)=t0+f4.size):=by show _=_;rw [e1,ht0];omega
       clear ht0 e1
       go_wp2_with fail
       go_roundw
       case rel=>exact ⟨m+1,by omega,by rw [HT.out];go_num,by go_num,by trivial⟩
       case measure=>simp [intOf];omega
     · obtain rfl:m=N:=by omega
       have d2:decide ((m:Int)<(m:Int))=false:=by simp
       have hS:=HS.out
       rw [<-hS]
       clear hS HS
       go_wp2_with fail
       go_ret
       exact ⟨rfl,B1⟩
end Go.Proofs.YtbjbjbpgmojcbabGreat
namespace Go.Proofs.YtbjbjbpgmojcbabGreat
open Go.ChangeShapes Go.WideShapes Go.RowKit Go.Deep
theorem weights_all {H:Type} {P:Program} {e:TypeId} {f:Nat->DataW H} {n i:Nat} (hi:i<n) {m:Nat} (h:m ∈ (f i).weights P e):m ∈ DataW.weightsAll P e ((List.range n).map f):=by
 have gen:∀ (l:List (DataW H)) (d:DataW H),d ∈ l->m ∈ d.weights P e->m ∈ DataW.weightsAll P e l:=by
  intro l
  induction l with
  | nil=>intro d h;simp at h
  | cons a l ih =>
   intro d hd hm
   rw [DataW.weightsAll,List.mem_append]
   rcases List.mem_cons.1 hd with rfl | hd
   · exact .inl hm
   · exact .inr (ih d hd hm)
 exact gen _ (f i) (List.mem_map.2 ⟨i,List.mem_range.2 hi,rfl⟩) h
theorem row_lt {W:World} {a:Addr} {n:Nat} {ps:List MemPlace} (h:∀ x ∈ MemPlace.row a (n+1)++ps,x.block<W.heap.size):a.block<W.heap.size:=by
 refine h (.cell a.block (a.off+0)) ?_
 rw [List.mem_append]
 left
 exact List.mem_map.2 ⟨0,List.mem_range.2 (by omega),rfl⟩
end Go.Proofs.YtbjbjbpgmojcbabGreat
namespace Go.Proofs.YtbjbjbpgmojcbabGreat
open Go.ChangeShapes Go.WideShapes Go.RowKit Go.Deep
theorem tx_laid:laidOutB Tryz.prog=true:=by kernel_rfl
theorem tx_cells:Tryz.prog.cellsOf 9=1:=by kernel_rfl
theorem tx_bytes:Tryz.prog.bytesOf 9=16:=by kernel_rfl
theorem open_texts {H:Type} {enc:TypeId × Value->H} {W:World} {a:Option Addr} {len cap fuel:Nat} {d:DataW H} {ps:List MemPlace}
 (hf:DataW.trod enc Tryz.prog W 0 (fun _=>true) true fuel 22 [.slice a len cap]=some (d,ps))
 (hsz:∀ n ∈ d.weights Tryz.prog 22,n<=reachBytes) :
 ∃ l:List ByteArray,len=l.length/\TxSl W a l/\l.length<=8796093022208/\(∀ i,(Tr.xa l i).size<=140737488355328):=by
 have lt:∀ x ∈ ps,x.block<W.heap.size:=DataW.trod_lt fuel _ _ _ hf
 rcases open_slice1 Tryz.underlying22 tx_cells hf with ⟨hcs,_⟩ | ⟨x,len',cap',m,n,V,D,Pl,hcs,_,hl,hm,hmm,hx,each⟩
 · simp at hcs
   obtain ⟨rfl,rfl,rfl⟩:=hcs
   exact ⟨[],rfl,.inl rfl,by simp,fun i=>by show 0<=_;omega⟩
 · simp at hcs
   obtain ⟨rfl,rfl,rfl⟩:=hcs
   simp only [if_true] at hmm
   subst hmm
   have hx1:=congrArg Prod.fst hx
   have hx2:=congrArg Prod.snd hx
   dsimp only at hx1 hx2
   rw [hx1] at hsz
   rw [hx2] at lt
   clear hx hx1 hx2 hf
   have key:∀ i,i<m->∃ q:ByteArray,W.cell? (x.add i)=some (.string q)/\D i=.lit (.string q.data.toList):=by
    intro i hi
    obtain ⟨h1,h2⟩:=each i hi
    obtain ⟨s,hs0,hy0,_⟩:=DataW.trod_string Tryz.underlying9 h2
    simp only [List.cons.injEq,and_true] at hs0
    rw [hs0] at h1
    exact ⟨s,h1,congrArg Prod.fst hy0⟩
   have:Inhabited ByteArray:=⟨⟨#[]⟩⟩
   obtain ⟨q,hq⟩:=choose_lt key
   have hlen:((List.range len).map q).length=len:=by simp
   have hxa:∀ i,i<len->Tr.xa ((List.range len).map q) i=q i:=fun i hi=>by simp [Tr.xa,hi]
   refine ⟨(List.range len).map q,hlen.symm,?_,?_,?_⟩
   · by_cases h0:len=0
     · left;simp [h0]
     · right
       obtain ⟨b,off,sp⟩:=x
       have hc0:=(hq 0 (by omega)).1
       have hsp:sp=none:=by simpa [Addr.add] using World.cell?_spot hc0
       subst hsp
       have hb:b<W.heap.size:=by
        rw [show m=(m - 1)+1 by omega] at lt
        exact row_lt lt
       refine ⟨b,off,rfl,hb,fun i hi=>?_⟩
       rw [hlen] at hi
       rw [hxa i hi,<-(hq i (by omega)).1,add_plain]
   · rw [hlen]
     have:=hsz ((((List.range len).map D).length+((List.range (m - len)).map fun j=>D (len+j)).length)*Tryz.prog.bytesOf 9) (by rw [DataW.weights,Tryz.underlying22];exact List.mem_cons_self ..)
     rw [tx_bytes] at this
     simp [reachBytes] at this
     omega
   · intro i
     by_cases hi:i<len
     · rw [hxa i hi]
       have hd:=(hq i (by omega)).2
       have hw:(q i).data.toList.length ∈ (D i).weights Tryz.prog 9:=by
        rw [hd,DataW.weights]
        exact List.mem_singleton.2 rfl
       have:=hsz _ (by rw [DataW.weights,Tryz.underlying22];exact List.mem_cons_of_mem _ (List.mem_append.2 (.inl (weights_all hi hw))))
       have h2:(q i).data.toList.length=(q i).size:=by simp
       rw [h2] at this
       simp [reachBytes] at this
       omega
     · have:Tr.xa ((List.range len).map q) i=⟨#[]⟩:=by simp [Tr.xa,show len<=i by omega]
       rw [this]
       show 0<=_
       omega
end Go.Proofs.YtbjbjbpgmojcbabGreat
