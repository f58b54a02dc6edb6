/- A part of the proof: what it leans on. -/
import Derived.Test.YtbjbjbpgmojcbacGreatLk34
set_option maxRecDepth 4000
set_option maxHeartbeats 8000000
namespace Go.Proofs.YtbjbjbpgmojcbacGreat
open Go.RowKit
theorem Zfs (ad af:Option Addr) (cd cf:Nat) (a:Ar.A) (size:Int) (w:World) (h:ArV w ad af a) (hs:SaneA a) (hc:Ar.chk a ≠ 0) :
 Calls Tryz.prog 16 #[av ad cd af cf a,.int .i64 size] w fun e w'=>ArSaid w Ar.az (Ar.chk a) e w':=by
 have C1:Hid (∀ w',Below w.heap.size w w'->Calls Tryz.prog 36 #[av ad cd af cf a] w' fun e w2=>e=.returned (.int .i64 (Ar.chk a))/\Below w'.heap.size w' w2):=fun w' h9=>Zr ad af cd cf a w' (h.below h9) hs
 have hQ:Hid (∀ w',Below w.heap.size w w'->ArSaid w Ar.az (Ar.chk a) (.returned (.tuple #[.agg #[.slice none 0 0,.slice none 0 0],.int .i64 (Ar.chk a)])) w'):=fun w' h9=>Zx h9
 generalize ArSaid w Ar.az (Ar.chk a)=Q at *;generalize Ar.chk a=E at *;have e1:(E != 0)=true:=by simpa using hc
 have e2:(E == 0)=false:=by simpa using hc
 clear hc;unfold av at C1 |-
 generalize a.dicts.length=D at *;generalize a.files.length=N at *;clear h hs;go_enter Tryz.func16,Tryz.ntmps16
 go_wp2_with fail
 refine (C1.out _ (Fr.start w _ _).b).mono ?_;rintro e w1 ⟨rfl,G1⟩;have F1:=(Fr.start w _ _).next G1;clear G1;obtain ⟨b,a0,a1,r0,r1,z0,z1,hz⟩:=id F1;go_wp2_with fail
 rw [F1.zero];exact bodyPost_ret (v:=.tuple #[.agg #[.slice none 0 0,.slice none 0 0],.int .i64 E]) (by simp [results,Tryz.results16,go_sem,F1.r0,F1.r1]) rfl (hQ.out _ F1.b)
theorem ZeM (ad af:Option Addr) (cd cf:Nat) (a:Ar.A) (size:Int) (w:World) (h:ArV w ad af a) (hs:SaneA a) (hc:Ar.chk a=0) (hz9:¬ (0<=size/\size<=256)) :
 Calls Tryz.prog 16 #[av ad cd af cf a,.int .i64 size] w fun e w'=>ArSaid w Ar.az 3 e w':=by
 have C1:Hid (∀ w',Below w.heap.size w w'->Calls Tryz.prog 36 #[av ad cd af cf a] w' fun e w2=>e=.returned (.int .i64 (Ar.chk a))/\Below w'.heap.size w' w2):=fun w' h9=>Zr ad af cd cf a w' (h.below h9) hs
 have C2:Hid (∀ w',Calls Tryz.prog 38 #[.int .i64 size,.int .i64 0,.int .i64 256] w' fun e w2=>e=.returned (.bool (decide (0<=size/\size<=256)))/\w2=w'):=fun w'=>ZS size 0 256 w'
 have hQ:Hid (∀ w',Below w.heap.size w w'->ArSaid w Ar.az 3 (.returned (.tuple #[.agg #[.slice none 0 0,.slice none 0 0],.int .i64 3])) w'):=fun w' h9=>Zx h9
 generalize ArSaid w Ar.az 3=Q at *;rw [hc] at C1;rw [decide_eq_false hz9] at C2;clear hc hz9;unfold av at C1 |-
 generalize a.dicts.length=D at *;generalize a.files.length=N at *;clear h hs;go_enter Tryz.func16,Tryz.ntmps16
 go_wp2_with fail
 refine (C1.out _ (Fr.start w _ _).b).mono ?_;rintro e w1 ⟨rfl,G1⟩;have F1:=(Fr.start w _ _).next G1;clear G1;obtain ⟨b,a0,a1,r0,r1,z0,z1,hz⟩:=id F1;go_wp2_with fail
 refine (C2.out _).mono ?_;rintro e w2 ⟨rfl,rfl⟩;go_wp2_with fail
 rw [F1.zero];exact bodyPost_ret (v:=.tuple #[.agg #[.slice none 0 0,.slice none 0 0],.int .i64 3]) (by simp [results,Tryz.results16,go_sem,F1.r0,F1.r1]) rfl (hQ.out _ F1.b)
theorem ZeO (ad af:Option Addr) (cd cf:Nat) (a:Ar.A) (size:Int) (w:World) (h:ArV w ad af a) (hs:SaneA a) (hc:Ar.chk a=0) (hz9:0<=size/\size<=256) (h4:a.dicts.length=4) :
 Calls Tryz.prog 16 #[av ad cd af cf a,.int .i64 size] w fun e w'=>ArSaid w Ar.az 2 e w':=by
 have C1:Hid (∀ w',Below w.heap.size w w'->Calls Tryz.prog 36 #[av ad cd af cf a] w' fun e w2=>e=.returned (.int .i64 (Ar.chk a))/\Below w'.heap.size w' w2):=fun w' h9=>Zr ad af cd cf a w' (h.below h9) hs
 have C2:Hid (∀ w',Calls Tryz.prog 38 #[.int .i64 size,.int .i64 0,.int .i64 256] w' fun e w2=>e=.returned (.bool (decide (0<=size/\size<=256)))/\w2=w'):=fun w'=>ZS size 0 256 w'
 have hQ:Hid (∀ w',Below w.heap.size w w'->ArSaid w Ar.az 2 (.returned (.tuple #[.agg #[.slice none 0 0,.slice none 0 0],.int .i64 2])) w'):=fun w' h9=>Zx h9
 generalize ArSaid w Ar.az 2=Q at *;rw [hc] at C1;rw [decide_eq_true hz9] at C2;have d4:decide ((4:Int)<=(a.dicts.length:Int))=true:=zdT (by omega);have d4':decide (4<=a.dicts.length)=true:=zdT (by omega);clear hc hz9 h4;unfold av at C1 |-
 generalize a.dicts.length=D at *;generalize a.files.length=N at *;clear h hs;go_enter Tryz.func16,Tryz.ntmps16
 go_wp2_with fail
 refine (C1.out _ (Fr.start w _ _).b).mono ?_;rintro e w1 ⟨rfl,G1⟩;have F1:=(Fr.start w _ _).next G1;clear G1;obtain ⟨b,a0,a1,r0,r1,z0,z1,hz⟩:=id F1;go_wp2_with fail
 refine (C2.out _).mono ?_;rintro e w2 ⟨rfl,rfl⟩;go_wp2_with fail
 rw [F1.zero];exact bodyPost_ret (v:=.tuple #[.agg #[.slice none 0 0,.slice none 0 0],.int .i64 2]) (by simp [results,Tryz.results16,go_sem,F1.r0,F1.r1]) rfl (hQ.out _ F1.b)
open Go.Maps
namespace Tr
def snK (t q:ByteArray):Nat->Nat
 | 0=>0
 | j+1=>snK t q j+(if pc t j=q then 1 else 0)
theorem Zqv (t q:ByteArray):∀ j,snK t q j<=j
 | 0=>nl _
 | j+1=>by have:=Zqv t q j;rw [snK];split <;> omega
theorem Zjz {t q:ByteArray} (hq:q.size=4):∀ {j:Nat},j<=t.size - 3->(snK t q j=0 ↔ stK q t j=false)
 | 0,_=>by simp [snK,stK]
 | j+1,h=>by
  have ih:=Zjz (t:=t) hq (j:=j) (by omega);rw [snK,stK,Bool.or_eq_false_iff,<-ih,decide_eq_false_iff_not,hq];constructor
  ·intro h9;refine ⟨by omega,?_⟩;rintro ⟨_,e⟩;rw [if_pos (show pc t j=q from e)] at h9;omega
  ·rintro ⟨h1,h2⟩;rw [if_neg (show ¬ pc t j=q from fun e=>h2 ⟨by omega,e⟩)];omega
theorem ZsY (t:ByteArray) (j:Nat):snK t (pc t j) (j+1)=snK t (pc t j) j+1:=by rw [snK,if_pos rfl]
theorem ZnO {t q:ByteArray} {j:Nat} (h:q ≠ pc t j):snK t q (j+1)=snK t q j:=by rw [snK,if_neg (fun e=>h e.symm)];rfl
theorem CM.below {w w':World} {b n:Nat} {f:ByteArray->Nat} (h:CM w b n f) (hb:Below w.heap.size w w'):CM w' b n f:=by
 obtain ⟨D,h1,h2⟩:=h;refine ⟨D,?_,h2⟩;have hlt:=h1.lt;obtain ⟨es,cl,h3,h4⟩:=h1;exact ⟨es,cl,by rw [hb.block b hlt];exact h3,h4⟩
theorem CM.kept' {w w':World} {b n:Nat} {f:ByteArray->Nat} {row:Option Nat} (h:CM w b n f) (hg:w.grownBy w' row) (hne:some b ≠ row):CM w' b n f:=by
 obtain ⟨D,h1,h2⟩:=h;exact ⟨D,h1.kept hg hne,h2⟩
theorem CM.at_f {f:ByteArray->Nat} {D:DataW Unit} (h3:∀ q:ByteArray,q.size=4->D.atKey (kl q) (i64 0)=i64 (f q)) (p:ByteArray) (hp:p.size=4) (c:Int) (h9:D.atKey (kl p) (.lit (.int .i64 0))=.lit (.int .i64 c)):c=(f p:Int):=by
 have h8:=h9.symm.trans (h3 p hp);simpa [i64] using h8
theorem ZqW {xs:List ByteArray} {d P B:ByteArray} {C:Nat} (h:C<ct xs P\/(ct xs P=C/\1<ct xs P/\bl P B=true)) (hs:st P d=false):bs xs d (B,C) P=(P,ct xs P):=by
 rw [bs,if_pos];rw [hs];rcases h with h | ⟨h1,h2,h3⟩
 ·simp [h]
 ·rw [h3];simp [h1];omega
theorem Zmb {xs:List ByteArray} {d P B:ByteArray} {C:Nat} (h:¬ (C<ct xs P\/(ct xs P=C/\1<ct xs P/\bl P B=true))\/st P d=true):bs xs d (B,C) P=(B,C):=by
 rw [bs,if_neg];intro h9;simp only [Bool.and_eq_true,Bool.or_eq_true,decide_eq_true_iff,Bool.not_eq_true',beq_iff_eq] at h9;rcases h with h | h
 ·apply h;rcases h9.1 with h8 | h8
  ·exact .inl h8
  ·exact .inr ⟨h8.1.1,h8.1.2,h8.2⟩
 ·rw [h] at h9;cases h9.2
theorem Zly (xs:List ByteArray) (d:ByteArray):(best xs d).size=0\/(best xs d).size=4:=by
 rcases Zcp xs d with ⟨h,_⟩ | ⟨h,_⟩
 ·left;rw [h];rfl
 ·exact .inr h
def bsz:Value->Nat
 | .string b=>b.size
 | _=>0
theorem ZY {b:ByteArray} (h:0<b.size):b.toList.isEmpty=false:=by
 rw [ByteArray.toList_eq,List.isEmpty_eq_false_iff];intro e;have:=congrArg List.length e;simp at this;rw [this] at h;exact absurd h (by decide)
theorem Zmd {b:ByteArray} (h:b.size=0):b=⟨#[]⟩:=by
 cases b with | mk d=>congr;exact Array.eq_empty_of_size_eq_zero h
end Tr
open Go.WideMaps
theorem ZgS (xs:List ByteArray) (size:Int) (b off cap:Nat) (w:World) (hx:Tr.TxAt w b off xs) (hn:xs.length<=12) (hB:∀ i,(Tr.xa xs i).size<=512) (h0:0<=size) (h1:size<=256) :
 Calls Tryz.prog 41 #[.slice (some ⟨b,off,none⟩) xs.length cap,.int .i64 size] w fun e w'=>e=.returned (.string (Tr.trn xs size.toNat))/\Below w.heap.size w w':=by
 have HX:Hid (∀ w',Below w.heap.size w w'->∀ i,i<xs.length->w'.cell? ⟨b,off+i,none⟩=some (.string (Tr.xa xs i))):=fun w' h=>(hx.below h).2
 have HB:Hid (∀ i,(Tr.xa xs i).size<=512):=hB;clear hB hx;have hn':(xs.length:Int)<=12:=by omega
 have hmm:=@run_makeMap Tryz.prog
 obtain ⟨R,hR⟩:∃ R,Tr.trn xs size.toNat=R:=⟨_,rfl⟩
 rw [hR];have HR0:Hid (Tr.tro xs size.toNat 65 ⟨#[]⟩=R):=hR;clear hR;go_enter Tryz.func41,Tryz.ntmps41
 go_wp2_with fail
 go_loopw [6] (fun i wr=>∃ k:Nat,k<=xs.length/\i=.int .i64 k/\Tr.CM wr w.heap.size (512*k) (fun q=>Tr.ctK xs q k)/\Below w.heap.size w wr) (fun i _=>xs.length - (intOf i).toNat)
 case atStart=>exact ⟨0,by omega,rfl,Tr.CM.made _,(bR _ _).alloc (nl _) _⟩
 case round =>
  obtain ⟨k,hk2,rfl,hC,B1⟩:=hrel;by_cases hlt:k<xs.length
  ·have d1:decide ((k:Int)<(xs.length:Int))=true:=by simp;omega
   have d1':decide (k<xs.length)=true:=by simp;omega
   have hki:(k:Int)<(xs.length:Int):=by omega
   have hXs:=HB.out k
   obtain ⟨X,hX⟩:∃ X,Tr.xa xs k=X:=⟨_,rfl⟩
   rw [hX] at hXs;have HXk:Hid (Tr.xa xs k=X):=hX;clear hX;have hwb:w.heap.size<wr.heap.size:=by obtain ⟨D,h,_⟩:=hC;exact h.lt
   have hC0:=hC.below ((bR wr.heap.size wr).alloc (nl _) (.map #[] 0));have B0:=B1.alloc B1.size (.map #[] 0);clear hC B1;go_wp2_with fail
   have HS:Hid (∀ w',Below w.heap.size w w'->w'.cell? ⟨b,off+k,none⟩=some (.string X)):=fun w' h=>by rw [<-HXk.out];exact HX.out w' h k hlt
   have hsm:=Tr.CM.made wr;generalize wr.heap.size=sb at *;go_loopw [8] (fun i wr2=>∃ j:Nat,j<=X.size - 3/\i=.int .i64 j/\Tr.CM wr2 w.heap.size (512*k+j) (Tr.cn xs k j)/\Tr.CM wr2 sb j (fun q=>Tr.snK X q j)/\Below w.heap.size w wr2) (fun i _=>X.size - 3 - (intOf i).toNat)
   case atStart=>exact ⟨0,by omega,rfl,hC0.same (by omega) (fun q _=>(Tr.Zmg xs k q).symm),hsm,B0⟩
   case round =>
    clear hC0 hsm B0;obtain ⟨j,hj2,rfl,hC,hS,B1⟩:=hrel;have c1:=HS.out _ B1;by_cases hjl:j<X.size - 3
    ·have e1:decide ((j:Int)+4<=(X.size:Int))=true:=zdT (by omega);have hji:(j:Int)+4<=(X.size:Int):=by omega
     have hjn:j+4<=X.size:=by omega
     have hj5:(j:Int)<=512:=by omega
     obtain ⟨P,hP⟩:∃ P,X.extract j (j+4)=P:=⟨_,rfl⟩
     have HP:Hid (Tr.pc X j=P):=hP;have hP4:Hid (P.size=4):=by show _=_;rw [<-HP.out];exact Tr.Zeh hjl
     have hkey:keyOf Tryz.prog 9 (.string (X.extract j (j+4)))=some (Tr.kl P):=by rw [hP];exact keyOf_string_mk U9 (by rw [hP4.out];decide)
     clear hP;have HZ:=Tr.Zjz (t:=X) hP4.out (j:=j) (by omega);have hsl:=Tr.Zqv X P j;have hsl2:Hid (Tr.snK X P (j+1)=Tr.snK X P j+1):=by have:=Tr.ZsY X j;rw [HP.out] at this;exact this
     have hsl3:Hid (∀ q:ByteArray,q.size=4->q ≠ P->Tr.snK X q (j+1)=Tr.snK X q j):=fun q _ hne=>Tr.ZnO (by rw [HP.out];exact hne)
     obtain ⟨E,hS0,hE2,hE3,hE4⟩:=hS;have hatS:=Tr.CM.at_f hE3 P hP4.out
     obtain ⟨N,hN⟩:∃ N,Tr.snK X P j=N:=⟨_,rfl⟩
     simp only [hN] at hatS;rw [hN] at HZ hsl;have HN:Hid (Tr.snK X P j=N):=hN;have hNi:(N:Int)<=512:=by omega
     have wf1:(Lit.int .i64 ((N:Int)+1)).wf=true:=WalkArith.wf_i64 (by omega);clear hN hsl;by_cases hz:N=0
     ·subst hz;have hst:=HZ.1 rfl
      have HN2:Hid (Tr.cn xs k (j+1) P=Tr.cn xs k j P+1):=by
       have:=Tr.ZqC (xs:=xs) (k:=k) (i:=j) (by rw [HXk.out];exact hjl) (by rw [HXk.out,HP.out];exact hst);rw [HXk.out,HP.out] at this;exact this
      have HO:Hid (∀ q:ByteArray,q.size=4->q ≠ P->Tr.cn xs k (j+1) q=Tr.cn xs k j q):=fun q hq hne=>Tr.Zff hq (by rw [HXk.out,HP.out];exact hne)
      obtain ⟨D,hown,hD2,hD3,hD4⟩:=hC;have hatC:=Tr.CM.at_f hD3 P hP4.out;have hcl:=Tr.ZtJ xs k j P
      obtain ⟨C,hCC⟩:∃ C,Tr.cn xs k j P=C:=⟨_,rfl⟩
      rw [hCC] at hatC hcl;have HCC:Hid (Tr.cn xs k j P=C):=hCC;have hCi:(C:Int)<=13:=by omega
      have wf2:(Lit.int .i64 ((C:Int)+1)).wf=true:=WalkArith.wf_i64 (by omega);clear hCC hcl hst HZ
      go_wp2_with (first
       | (at_lookup;refine wpList_lookup_own_int _ rfl _ _ 104 rfl 9 3 .i64 keyS U104 zU3 (ZbS _) sb j _ rfl hS1 _ _ rfl hkey ?_;intro c hat hwc;obtain rfl:=hatS c hat;clear hat hwc)
       | (at_lookup;refine wpList_lookup_own_int _ rfl _ _ 104 rfl 9 3 .i64 keyS U104 zU3 (ZbS _) sb j _ rfl hS0 _ _ rfl hkey ?_;intro c hat hwc;obtain rfl:=hatS c hat;clear hat hwc)
       | (at_lookup;refine wpList_lookup_own_int _ rfl _ _ 104 rfl 9 3 .i64 keyS U104 zU3 (ZbS _) w.heap.size (512*k+j) _ rfl hown _ _ rfl hkey ?_;intro c hat hwc;obtain rfl:=hatC c hat;clear hat hwc)
       | (at_mapUpdate;refine wpList_mapUpdate_own _ rfl _ _ _ 104 rfl 9 3 keyS U104 _ w.heap.size (512*k+j) _ rfl hown (by unfold maxLen;omega) _ _ _ rfl rfl hkey _ [] (plainElem_int zU3 wf2) ?_;intro w1 hown1 hgrow1;have hS1:=hS0.kept hgrow1 (by simp;omega);clear hS0)
       | (at_mapUpdate;refine wpList_mapUpdate_own _ rfl _ _ _ 104 rfl 9 3 keyS U104 _ sb j _ rfl hS1 (by unfold maxLen;omega) _ _ _ rfl rfl hkey _ [] (plainElem_int zU3 wf1) ?_;intro w2 hS2 hgrow2;have hown2:=hown1.kept hgrow2 (by simp;omega);clear hown1 hS1)
       | fail)
      have hC2:Tr.CM w2 w.heap.size (512*k+(j+1)) (Tr.cn xs k (j+1)):=Tr.CM.put hP4.out hD2 hD3 hD4 (by rw [HN2.out,HCC.out];exact hown2) HN2.out HO.out;have hSS2:Tr.CM w2 sb (j+1) (fun q=>Tr.snK X q (j+1)):=Tr.CM.put hP4.out hE2 hE3 hE4 (by show w2.ownsMap _ _ _ _ _ (E.put _ (Tr.i64 ((Tr.snK X P (j+1):Nat):Int)));rw [hsl2.out,HN.out];exact hS2) hsl2.out hsl3.out;have B2:=(B1.grown hgrow1 B1.size (fun j hj=>by cases hj;exact nl _)).grown hgrow2 (by have:=hgrow1.size;have:=B1.size;omega) (fun j hj=>by cases hj;omega);clear hown2 hS2 hgrow1 hgrow2 B1 hown;go_roundw
      case rel=>exact ⟨j+1,by omega,by go_num,hC2,hSS2,B2⟩
      case measure=>simp [intOf];omega
     ·have hst:Tr.stK P X j=true:=by
       cases h9:Tr.stK P X j with
       | true=>rfl
       | false=>exact absurd (HZ.2 h9) hz
      have HN2:Hid (∀ q:ByteArray,q.size=4->Tr.cn xs k j q=Tr.cn xs k (j+1) q):=fun q hq=>(Tr.ZqA (by rw [HXk.out,HP.out];exact hst) hq).symm
      have hz':¬ (N:Int)=0:=by omega
      have e2:decide ((N:Int)=0)=false:=dF hz';have e3:((N:Int) == 0)=false:=by simpa using hz'
      clear hst HZ
      go_wp2_with (first
       | (at_lookup;refine wpList_lookup_own_int _ rfl _ _ 104 rfl 9 3 .i64 keyS U104 zU3 (ZbS _) sb j _ rfl hS0 _ _ rfl hkey ?_;intro c hat hwc;obtain rfl:=hatS c hat;clear hat hwc)
       | (at_mapUpdate;refine wpList_mapUpdate_own _ rfl _ _ _ 104 rfl 9 3 keyS U104 _ sb j _ rfl hS0 (by unfold maxLen;omega) _ _ _ rfl rfl hkey _ [] (plainElem_int zU3 wf1) ?_;intro w2 hS2 hgrow2)
       | fail)
      have hC2:Tr.CM w2 w.heap.size (512*k+(j+1)) (Tr.cn xs k (j+1)):=(hC.kept' hgrow2 (by simp;omega)).same (by omega) HN2.out;have hSS2:Tr.CM w2 sb (j+1) (fun q=>Tr.snK X q (j+1)):=Tr.CM.put hP4.out hE2 hE3 hE4 (by show w2.ownsMap _ _ _ _ _ (E.put _ (Tr.i64 ((Tr.snK X P (j+1):Nat):Int)));rw [hsl2.out,HN.out];exact hS2) hsl2.out hsl3.out;have B2:=B1.grown hgrow2 B1.size (fun j hj=>by cases hj;omega);clear hS0 hS2 hgrow2 B1 hC;go_roundw
      case rel=>exact ⟨j+1,by omega,by go_num,hC2,hSS2,B2⟩
      case measure=>simp [intOf];omega
    ·have e1:decide ((j:Int)+4<=(X.size:Int))=false:=dF (by omega);have hj5:(j:Int)<=512:=by omega
     have hC2:Tr.CM wr w.heap.size (512*(k+1)) (fun q=>Tr.ctK xs q (k+1)):=hC.same (by omega) (fun q hq=>Tr.ZqF hq (by rw [HXk.out];omega));clear hC hS;go_wp2_with fail
     go_roundw
     case rel=>exact ⟨k+1,by omega,by go_num,hC2,B1⟩
     case measure=>simp [intOf];omega
  ·obtain rfl:k=xs.length:=by omega
   have d1:decide ((xs.length:Int)<(xs.length:Int))=false:=by simp
   have hC0:Tr.CM wr w.heap.size 6144 (Tr.ct xs):=hC.same (by omega) (fun _ _=>rfl);clear hC hmm hlt hk2;go_wp2_with fail
   go_loopw [10] (fun dv wr=>∃ (d:ByteArray) (f:Nat),dv=.string d/\Hid (Tr.tro xs size.toNat f d=R)/\Hid (4*f+d.size=260)/\d.size<=256/\Tr.CM wr w.heap.size 6144 (Tr.ct xs)/\Below w.heap.size w wr) (fun dv _=>300 - Tr.bsz dv)
   case atStart=>exact ⟨⟨#[]⟩,65,rfl,HR0,rfl,by decide,hC0,B1⟩
   case round =>
    clear hC0 B1 HR0;obtain ⟨d,f,rfl,HRd,Hf,hd,hC0,B1⟩:=hrel;by_cases hfit:(d.size:Int)+4<=size
    ·have e1:decide ((d.size:Int)+4<=size)=true:=zdT hfit;go_wp2_with fail
     go_loopw [11,12,13] (fun bv cv iv wr2=>∃ (B:ByteArray) (C k:Nat),k<=xs.length/\iv=.int .i64 k/\bv=.string B/\cv=.int .i64 C/\Hid (Tr.bsT xs d k=(B,C))/\B.size<=4/\C<=100/\Tr.CM wr2 w.heap.size 6144 (Tr.ct xs)/\Below w.heap.size w wr2) (fun _ _ iv _=>xs.length - (intOf iv).toNat)
     case atStart=>exact ⟨⟨#[]⟩,1,0,by omega,rfl,rfl,rfl,rfl,by decide,by omega,hC0,B1⟩
     case round =>
      clear hC0 B1;obtain ⟨B0,C0,k,hk2,rfl,rfl,rfl,HT,hB0,hC00,hC0,B1⟩:=hrel;by_cases hlt:k<xs.length
      ·have d1:decide ((k:Int)<(xs.length:Int))=true:=by simp;omega
       have d1':decide (k<xs.length)=true:=by simp;omega
       have hki:(k:Int)<(xs.length:Int):=by omega
       have hXs:=HB.out k
       obtain ⟨X,hX⟩:∃ X,Tr.xa xs k=X:=⟨_,rfl⟩
       rw [hX] at hXs;have HXk:Hid (Tr.xa xs k=X):=hX;clear hX;have HS:Hid (∀ w',Below w.heap.size w w'->w'.cell? ⟨b,off+k,none⟩=some (.string X)):=fun w' h=>by rw [<-HXk.out];exact HX.out w' h k hlt
       go_wp2_with fail
       go_loopw [11,12,14] (fun bv cv iv wr2=>∃ (B:ByteArray) (C j:Nat),j<=X.size - 3/\iv=.int .i64 j/\bv=.string B/\cv=.int .i64 C/\Hid (Tr.bsR xs d X (B0,C0) j=(B,C))/\B.size<=4/\C<=100/\Tr.CM wr2 w.heap.size 6144 (Tr.ct xs)/\Below w.heap.size w wr2) (fun _ _ iv _=>X.size - 3 - (intOf iv).toNat)
       case atStart=>exact ⟨B0,C0,0,by omega,rfl,rfl,rfl,rfl,hB0,hC00,hC0,B1⟩
       case round =>
        clear hC0 B1;obtain ⟨B,C,j,hj2,rfl,rfl,rfl,HL,hB4,hC1,hC0,B2⟩:=hrel;have c1:=HS.out _ B2;by_cases hjl:j<X.size - 3
        ·have e2:decide ((j:Int)+4<=(X.size:Int))=true:=zdT (by omega);have hji:(j:Int)+4<=(X.size:Int):=by omega
         have hjn:j+4<=X.size:=by omega
         have hj5:(j:Int)<=512:=by omega
         obtain ⟨P,hP⟩:∃ P,X.extract j (j+4)=P:=⟨_,rfl⟩
         have HP:Hid (Tr.pc X j=P):=hP;have hP4:Hid (P.size=4):=by show _=_;rw [<-HP.out];exact Tr.Zeh hjl
         have hkey:keyOf Tryz.prog 9 (.string (X.extract j (j+4)))=some (Tr.kl P):=by rw [hP];exact keyOf_string_mk U9 (by rw [hP4.out];decide)
         have hC9:Hid (Tr.CM wr w.heap.size 6144 (Tr.ct xs)):=hC0;obtain ⟨D,hown,hD2,hD3,hD4⟩:=hC0;have hatC:=Tr.CM.at_f hD3 P hP4.out;have hcl:=Tr.Zjs xs P xs.length
         change Tr.ct xs P<=_ at hcl
         have c2:∀ w,Calls Tryz.prog 74 #[.string (X.extract j (j+4)),.string d] w fun e w'=>e=.returned (.bool (Tr.st P d))/\Below w.heap.size w w':=fun w=>by rw [hP];exact ZkF P d w (by rw [hP4.out];omega) (by omega)
         obtain ⟨n,hnn⟩:∃ n,Tr.ct xs P=n:=⟨_,rfl⟩
         rw [hnn] at hatC hcl;have HNN:Hid (Tr.ct xs P=n):=hnn;have hni:(n:Int)<=12:=by omega
         have hCi:(C:Int)<=100:=by omega
         have HBL:Hid (Tr.bl P B=Op.bytesLess (X.extract j (j+4)).toList B.toList):=by show _=_;rw [hP];rfl
         clear hnn hP hD2 hD3 hD4;by_cases hA:C<n
         ·have hA':(C:Int)<(n:Int):=by omega
          have dA:decide ((C:Int)<(n:Int))=true:=zdT hA'
          cases hs:Tr.st P d with
          | false =>
           have HBS:Hid (Tr.bs xs d (B,C) P=(P,n)):=by show _=_;rw [Tr.ZqW (.inl (by rw [HNN.out];exact hA)) hs,HNN.out]
           rw [hs] at c2;clear hs
           go_wp2_with (first
            | (at_lookup;refine wpList_lookup_own_int _ rfl _ _ 104 rfl 9 3 .i64 keyS U104 zU3 (ZbS _) w.heap.size 6144 _ rfl hown _ _ rfl hkey ?_;intro c hat hwc;obtain rfl:=hatC c hat;clear hat hwc)
            | fail)
           refine (c2 _).mono ?_;rintro e w2 ⟨rfl,G⟩;have B3:=bch B2 G (nl _);have hC2:Tr.CM w2 w.heap.size 6144 (Tr.ct xs):=Tr.CM.below hC9.out G;go_wp2_with fail
           go_roundw
           case rel=>exact ⟨P,n,j+1,by omega,by go_num,by rw [show X.extract j (j+4)=P from HP.out],rfl,by show Tr.bsR _ _ _ _ (j+1)=_;rw [Tr.bsR,HL.out,HP.out,HBS.out],by rw [hP4.out];omega,by omega,hC2,B3⟩
           case measure=>simp [intOf];omega
          | true =>
           have HBS:Hid (Tr.bs xs d (B,C) P=(B,C)):=Tr.Zmb (.inr hs);rw [hs] at c2;clear hs
           go_wp2_with (first
            | (at_lookup;refine wpList_lookup_own_int _ rfl _ _ 104 rfl 9 3 .i64 keyS U104 zU3 (ZbS _) w.heap.size 6144 _ rfl hown _ _ rfl hkey ?_;intro c hat hwc;obtain rfl:=hatC c hat;clear hat hwc)
            | fail)
           refine (c2 _).mono ?_;rintro e w2 ⟨rfl,G⟩;have B3:=bch B2 G (nl _);have hC2:Tr.CM w2 w.heap.size 6144 (Tr.ct xs):=Tr.CM.below hC9.out G;go_wp2_with fail
           go_roundw
           case rel=>exact ⟨B,C,j+1,by omega,by go_num,rfl,rfl,by show Tr.bsR _ _ _ _ (j+1)=_;rw [Tr.bsR,HL.out,HP.out,HBS.out],hB4,hC1,hC2,B3⟩
           case measure=>simp [intOf];omega
         ·have hA':¬ (C:Int)<(n:Int):=by omega
          have dA:decide ((C:Int)<(n:Int))=false:=dF hA';by_cases hE:n=C
          ·subst hE;by_cases h2:1<n
           ·have h2':(1:Int)<(n:Int):=by omega
            have d2:decide ((1:Int)<(n:Int))=true:=zdT h2'
            cases hbl:Tr.bl P B with
            | true =>
             have hbl2:=hbl;rw [HBL.out] at hbl2
             cases hs:Tr.st P d with
             | false =>
              have HBS:Hid (Tr.bs xs d (B,n) P=(P,n)):=by show _=_;rw [Tr.ZqW (.inr ⟨HNN.out,by rw [HNN.out];exact h2,hbl⟩) hs,HNN.out]
              rw [hs] at c2;clear hs hbl
              go_wp2_with (first
               | (at_lookup;refine wpList_lookup_own_int _ rfl _ _ 104 rfl 9 3 .i64 keyS U104 zU3 (ZbS _) w.heap.size 6144 _ rfl hown _ _ rfl hkey ?_;intro c hat hwc;obtain rfl:=hatC c hat;clear hat hwc)
               | fail)
              refine (c2 _).mono ?_;rintro e w2 ⟨rfl,G⟩;have B3:=bch B2 G (nl _);have hC2:Tr.CM w2 w.heap.size 6144 (Tr.ct xs):=Tr.CM.below hC9.out G;go_wp2_with fail
              go_roundw
              case rel=>exact ⟨P,n,j+1,by omega,by go_num,by rw [show X.extract j (j+4)=P from HP.out],rfl,by show Tr.bsR _ _ _ _ (j+1)=_;rw [Tr.bsR,HL.out,HP.out,HBS.out],by rw [hP4.out];omega,by omega,hC2,B3⟩
              case measure=>simp [intOf];omega
             | true =>
              have HBS:Hid (Tr.bs xs d (B,n) P=(B,n)):=Tr.Zmb (.inr hs);rw [hs] at c2;clear hs hbl
              go_wp2_with (first
               | (at_lookup;refine wpList_lookup_own_int _ rfl _ _ 104 rfl 9 3 .i64 keyS U104 zU3 (ZbS _) w.heap.size 6144 _ rfl hown _ _ rfl hkey ?_;intro c hat hwc;obtain rfl:=hatC c hat;clear hat hwc)
               | fail)
              refine (c2 _).mono ?_;rintro e w2 ⟨rfl,G⟩;have B3:=bch B2 G (nl _);have hC2:Tr.CM w2 w.heap.size 6144 (Tr.ct xs):=Tr.CM.below hC9.out G;go_wp2_with fail
              go_roundw
              case rel=>exact ⟨B,n,j+1,by omega,by go_num,rfl,rfl,by show Tr.bsR _ _ _ _ (j+1)=_;rw [Tr.bsR,HL.out,HP.out,HBS.out],hB4,hC1,hC2,B3⟩
              case measure=>simp [intOf];omega
            | false =>
             have HBS:Hid (Tr.bs xs d (B,n) P=(B,n)):=Tr.Zmb (.inl (by rw [HNN.out,hbl];simp));rw [HBL.out] at hbl;clear c2
             go_wp2_with (first
              | (at_lookup;refine wpList_lookup_own_int _ rfl _ _ 104 rfl 9 3 .i64 keyS U104 zU3 (ZbS _) w.heap.size 6144 _ rfl hown _ _ rfl hkey ?_;intro c hat hwc;obtain rfl:=hatC c hat;clear hat hwc)
              | fail)
             go_roundw
             case rel=>exact ⟨B,n,j+1,by omega,by go_num,rfl,rfl,by show Tr.bsR _ _ _ _ (j+1)=_;rw [Tr.bsR,HL.out,HP.out,HBS.out],hB4,hC1,hC9.out,B2⟩
             case measure=>simp [intOf];omega
           ·have h2':¬ (1:Int)<(n:Int):=by omega
            have d2:decide ((1:Int)<(n:Int))=false:=dF h2';have HBS:Hid (Tr.bs xs d (B,n) P=(B,n)):=Tr.Zmb (.inl (by rw [HNN.out];omega));clear c2
            go_wp2_with (first
             | (at_lookup;refine wpList_lookup_own_int _ rfl _ _ 104 rfl 9 3 .i64 keyS U104 zU3 (ZbS _) w.heap.size 6144 _ rfl hown _ _ rfl hkey ?_;intro c hat hwc;obtain rfl:=hatC c hat;clear hat hwc)
             | fail)
            go_roundw
            case rel=>exact ⟨B,n,j+1,by omega,by go_num,rfl,rfl,by show Tr.bsR _ _ _ _ (j+1)=_;rw [Tr.bsR,HL.out,HP.out,HBS.out],hB4,hC1,hC9.out,B2⟩
            case measure=>simp [intOf];omega
          ·have hE':¬ (n:Int)=(C:Int):=by omega
           have d2:decide ((n:Int)=(C:Int))=false:=dF hE';have d3:((n:Int) == (C:Int))=false:=by simpa using hE'
           have HBS:Hid (Tr.bs xs d (B,C) P=(B,C)):=Tr.Zmb (.inl (by rw [HNN.out];omega));clear c2
           go_wp2_with (first
            | (at_lookup;refine wpList_lookup_own_int _ rfl _ _ 104 rfl 9 3 .i64 keyS U104 zU3 (ZbS _) w.heap.size 6144 _ rfl hown _ _ rfl hkey ?_;intro c hat hwc;obtain rfl:=hatC c hat;clear hat hwc)
            | fail)
           go_roundw
           case rel=>exact ⟨B,C,j+1,by omega,by go_num,rfl,rfl,by show Tr.bsR _ _ _ _ (j+1)=_;rw [Tr.bsR,HL.out,HP.out,HBS.out],hB4,hC1,hC9.out,B2⟩
           case measure=>simp [intOf];omega
        ·have e2:decide ((j:Int)+4<=(X.size:Int))=false:=dF (by omega);have hj5:(j:Int)<=512:=by omega
         have HT2:Hid (Tr.bsT xs d (k+1)=(B,C)):=by
          show _=_;rw [Tr.bsT,HXk.out,HT.out,show X.size - 3=j by omega];exact HL.out
         go_wp2_with fail
         go_roundw
         case rel=>exact ⟨B,C,k+1,by omega,by go_num,rfl,rfl,HT2,hB4,hC1,hC0,B2⟩
         case measure=>simp [intOf];omega
      ·obtain rfl:k=xs.length:=by omega
       have d1:decide ((xs.length:Int)<(xs.length:Int))=false:=by simp
       have HBB:Hid (Tr.best xs d=B0):=by show _=_;rw [Tr.best,HT.out]
       rcases Tr.Zly xs d with hz | hz
       ·have HN:Hid (d=R):=by
         have h9:=HRd.out;rw [Tr.ZfO hz] at h9;exact h9
        rw [HBB.out] at hz;obtain rfl:=Tr.Zmd hz;clear hz;go_wp2_with fail
        go_ret
        exact ⟨by rw [HN.out];rfl,B1⟩
       ·obtain ⟨g,rfl⟩:∃ g,f=g+1:=⟨f - 1,by have:=Hf.out;omega⟩
        have HN:Hid (Tr.tro xs size.toNat g (B0++d)=R):=by
         have h9:=HRd.out;rw [Tr.Zjk (by omega) hz,HBB.out] at h9;exact h9
        rw [HBB.out] at hz;have hXd:(B0++d).size=4+d.size:=by rw [ByteArray.size_append,hz]
        have hne:B0.toList.isEmpty=false:=Tr.ZY (by omega);have hne2:(B0.toList == [])=false:=by rw [<-hne];cases B0.toList <;> rfl
        have hf1:Hid (4*g+(B0++d).size=260):=by have:=Hf.out;show 4*g+_=260;omega
        have hzz:Hid (B0.size=4):=hz;clear hz;go_wp2_with fail
        go_roundw
        case rel=>exact ⟨B0++d,g,rfl,HN,hf1,by omega,hC0,B1⟩
        case measure=>simp [Tr.bsz];have:=hzz.out;omega
    ·have e1:decide ((d.size:Int)+4<=size)=false:=dF hfit
     have HN:Hid (d=R):=by
      have h9:=HRd.out;rw [Tr.ZiJ (by omega)] at h9;exact h9
     go_wp2_with fail
     go_ret
     exact ⟨by rw [HN.out];rfl,B1⟩
theorem ZsQ (size:Nat) (f:Nat):Tr.tro [] size f ⟨#[]⟩=⟨#[]⟩:=Tr.ZfO rfl
theorem ZiC (size:Int) (ad:Option Addr) (cap:Nat) (w:World) :
 Calls Tryz.prog 41 #[.slice ad 0 cap,.int .i64 size] w fun e w'=>e=.returned (.string ⟨#[]⟩)/\Below w.heap.size w w':=by
 have hmm:=@run_makeMap Tryz.prog;go_enter Tryz.func41,Tryz.ntmps41
 go_wp2_with fail
 go_loopw [6] (fun i wr=>i=.int .i64 0/\Below w.heap.size w wr) (fun i _=>0)
 case atStart=>exact ⟨rfl,(bR _ _).alloc (nl _) _⟩
 case round =>
  obtain ⟨rfl,B1⟩:=hrel;go_wp2_with fail
  go_loopw [10] (fun dv wr=>dv=.string ⟨#[]⟩/\Below w.heap.size w wr) (fun _ _=>0)
  case atStart=>exact ⟨rfl,B1⟩
  case round =>
   clear B1;obtain ⟨rfl,B1⟩:=hrel;by_cases hfit:(4:Int)<=size
   ·have e1:decide ((4:Int)<=size)=true:=zdT hfit;go_wp2_with fail
    go_loopw [11,12,13] (fun bv cv iv wr=>iv=.int .i64 0/\bv=.string ⟨#[]⟩/\Below w.heap.size w wr) (fun _ _ _ _=>0)
    case atStart=>exact ⟨rfl,rfl,B1⟩
    case round =>
     clear B1;obtain ⟨rfl,rfl,B1⟩:=hrel;go_wp2_with fail
     go_ret
     exact ⟨rfl,B1⟩
   ·have e1:decide ((4:Int)<=size)=false:=dF hfit;go_wp2_with fail
    go_ret
    exact ⟨rfl,B1⟩
theorem ZhR (xs:List ByteArray) (size:Int) (ad:Option Addr) (cap:Nat) (w:World) (hx:TxSl w ad xs) (hn:xs.length<=12) (hB:∀ i,(Tr.xa xs i).size<=512) (h0:0<=size) (h1:size<=256) :
 Calls Tryz.prog 41 #[.slice ad xs.length cap,.int .i64 size] w fun e w'=>e=.returned (.string (Tr.trn xs size.toNat))/\Below w.heap.size w w':=by
 rcases hx with rfl | ⟨b,off,rfl,h2⟩
 ·rw [Tr.trn,ZsQ];exact ZiC size ad cap w
 ·exact ZgS xs size b off cap w h2 hn hB h0 h1
end Go.Proofs.YtbjbjbpgmojcbacGreat
