/- A part of the proof: what it leans on. -/
import Derived.Test.YtbjbjbpgmojcbacGreatDoorDk18
set_option maxRecDepth 8000
set_option maxHeartbeats 8000000
namespace Go.Proofs.YtbjbjbpgmojcbacGreatDoor
open Ar Bk Cd Dk Im Tk Tr Vy
open Tryz
variable{b d:ByteArray}{f:ByteArray->Nat}{xs:List ByteArray}{C n:Nat}{w w':World}
open Go.RowKit
theorem Tc(ad af:Option Addr)(cd cf:Nat)(a:Ar.A)(w:World)(hn1:a.aa.length<=8796093022208)(hn2:a.files.length<=8796093022208)(hm:4<a.aa.length\/12<a.files.length) :
 CB 44 #[av ad cd af cf a] w (.int .i64 2):=by
 have hb:=λo=>(bR w.heap.size w).alloc (nl _) o
 unfold av;generalize a.aa.length=D at*;generalize a.files.length=N at*;by_cases h4:4<D
 ·have d1:=al (by omega:(4:Int)<(D:Int));have d1':=al (by omega:4<D);clear hm;go_enter func44,ntmps44
  go_wp2_with fail
  go_ret
  exact⟨rfl,hb _⟩
 ·have d1:=dF (by omega:¬((4:Int)<(D:Int)));have d1':=dF (by omega:¬(4<D));have d2:=al (by omega:(12:Int)<(N:Int));have eJ:=al (by omega:12<N);clear hm h4;go_enter func44,ntmps44
  go_wp2_with fail
  go_ret
  exact⟨rfl,hb _⟩
theorem Td(ad af:Option Addr)(cd cf:Nat)(a:Ar.A)(w:World)(h:bo w ad af a)(hs:ao a)(m1:a.aa.length<=4)(m2:a.files.length<=12) :
 CB 44 #[av ad cd af cf a] w (.int .i64 (Vz a)):=by
 have hb:=λo=>(bR w.heap.size w).alloc (nl _) o
 have HX:=Za λw' (hb:ae w w') k (hk:k<a.aa.length)=>(h.ds.below hb).at hk
 have HF:=Za λw' (h9:ae w w') k (hk:k<a.files.length)=>(h.fs.below h9).at hk
 have HL2:Hid (∀k,k<a.aa.length->WC a.aa k=none->256<(VA a.aa k).size->Vz a=2):=λk hk hl hs=>by
  have h1:WC a.aa (k+1)=some k:=by rw[WC,hl];exact ax hs
  have h9:=aay h1 (a.aa.length-(k+1));rw[show k+1+(a.aa.length-(k+1))=a.aa.length by omega]at h9;have:W6 a=true:=by unfold W6;rw[h9];simp
  unfold Vz;rw[ax this]
 have uu:Hid (∀k,WC a.aa k=none->(VA a.aa k).size<=256->WC a.aa (k+1)=none):=λk hl hs=>by rw[WC,hl];exact ab (by omega)
 have HM:Hid (WC a.aa a.aa.length=none->W6 a=false):=λhl=>by unfold W6;rw[hl,decide_eq_false (by omega)];rfl
 have HB:Hid (W6 a=false->∀k,k<a.files.length->dQ a k=false->Vz a=1):=λhm k hk ho=>by unfold Vz;rw[hm,YK hk ho];rfl
 have HG:=Za λ(hm:W6 a=false) (hg:WW a a.files.length=true)=>VV.2 ⟨hm,hg⟩
 have HD:=Za λ(n:Int) (hh:VY a.aa n=true) w' (h9:ae w w')=>zh ad af cd cf a n w' (h.ds.below h9) hs.nd hh
 have HU:Hid (W6 a=false->∀k w',Calls prog 80 #[.string (V5 a.aa (Nm a.files k).dict),.string (Nm a.files k).blk] w' λe w2=>nY (Wd a.aa (Nm a.files k)) w' e w2):=λhm k w'=>Gy _ _ w' (XJ hm _) (hs.bk k)
 have HN:=Za hs.nm
 obtain⟨c,hc⟩:∃c,Vz a=c:=⟨_,rfl⟩
 rw[hc]at HL2 HB HG;rw[hc];clear hc h hs;unfold av at HD |-
 obtain⟨D,hD⟩:∃D,a.aa.length=D:=⟨_,rfl⟩
 obtain⟨N,hN⟩:∃N,a.files.length=N:=⟨_,rfl⟩
 simp only[hD,hN]at HX HF HL2 HM HB HG HD m1 m2 |-
 have cK:=Za hN;have vt:=Za hD;clear hN hD;have hD':(D:Int)<=4:=by omega
 have hN':(N:Int)<=12:=by omega
 have e1:=dF (by omega:¬((4:Int)<(D:Int)));have e1':=dF (by omega:¬(4<D));have e2:=dF (by omega:¬((12:Int)<(N:Int)));have e2':=dF (by omega:¬(12<N));go_enter func44,ntmps44
 go_wp2_with fail
 have a0:(w.alloc (.cells #[.slice ad D cd,.slice af N cf] 35 (0,0))).cell? ⟨w.heap.size,0,none⟩=some (.slice ad D cd):=cN _ _ _ 0;have a1:(w.alloc (.cells #[.slice ad D cd,.slice af N cf] 35 (0,0))).cell? ⟨w.heap.size,1,none⟩=some (.slice af N cf):=cN _ _ _ 1;have B1:=hb (.cells #[.slice ad D cd,.slice af N cf] 35 (0,0));have hz1:w.heap.size<(w.alloc (.cells #[.slice ad D cd,.slice af N cf] 35 (0,0))).heap.size:=by simp
 generalize (w.alloc (.cells #[.slice ad D cd,.slice af N cf] 35 (0,0)))=w1 at*;go_loopw [3] (λi wr=>∃k:Nat,k<=D/\i=.int .i64 k/\Hid (WC a.aa k=none)/\wr=w1) (λi _=>D-(intOf i).toNat)
 case atStart=>exact⟨0,by omega,rfl,rfl,rfl⟩
 case round =>
  obtain⟨k,hk2,rfl,HL,hwr⟩:=hrel;have hwr:=hwr.symm;subst hwr;by_cases hlt:k<D
  ·have d1:=al (by omega:(k:Int)<(D:Int));have d1':=al (by omega:k<D);have hki:(k:Int)<(D:Int):=by omega
   obtain⟨b,off,rfl,hbl,hcell⟩:=HX.out w1 B1 k hlt;by_cases hs:256<(VA a.aa k).size
   ·have HR:=Za (HL2.out k hlt HL.out hs);have d2:decide ((256:Int)<((VA a.aa k).size:Int))=true:=al (by omega);have eJ:decide (256<(VA a.aa k).size)=true:=al (by omega);clear HL;generalize VA a.aa k=X at*;go_wp2_with fail
    go_ret
    exact⟨congrArg (λx=>Ending.returned (Value.int .i64 x)) HR.out.symm,B1⟩
   ·have ee:=Za (uu.out k HL.out (by omega));have d2:decide ((256:Int)<((VA a.aa k).size:Int))=false:=dF (by omega);have eJ:=dF (by omega);generalize VA a.aa k=X at*;clear hs;go_wp2_with fail
    go_roundw
    case rel=>exact⟨k+1,by omega,by go_num,ee,by trivial⟩
    case measure=>simp[intOf];omega
  ·obtain rfl:k=D:=by omega
   have d1:decide ((k:Int)<(k:Int))=false:=by simp
   have wm:=Za (HM.out HL.out);have Te:=Za (HB.out wm.out);have Tf:=Za (HG.out wm.out);have dt:=Za (HU.out wm.out);clear HL HM HL2 uu HB HG HU wm HX;go_wp2_with fail
   go_loopw [4] (λi w2=>∃m:Nat,m<=N/\i=.int .i64 m/\Hid (WW a m=true)/\ae w1 w2) (λi _=>N-(intOf i).toNat)
   case atStart=>exact⟨0,by omega,rfl,rfl,bR _ _⟩
   case round =>
    obtain⟨m,hm2,rfl,A0,B2⟩:=hrel;have a0':=(B2.cell (p:=⟨w.heap.size,0,none⟩) hz1).trans a0;have a1':=(B2.cell (p:=⟨w.heap.size,1,none⟩) hz1).trans a1;have B3:=ag B1 B2;have hz2:=nT hz1 B2.size;by_cases hlt:m<N
    ·have d2:=al (by omega:(m:Int)<(N:Int));have eJ:=al (by omega:m<N);have jQ:(m:Int)<(N:Int):=by omega
     obtain⟨b,off,rfl,hbl,hcell⟩:=HF.out wr B3 m hlt;obtain⟨c0,c1,c2,c3,c4⟩:=hcell;have CN:=Za λw'=>sv _ w' (HN.out m)
     have CW:Hid (∀w',Calls prog 79 #[.int .i64 (Nm a.files m).dict,.int .i64 0,.int .i64 (k:Nat)] w' λe w3=>e=.returned (.bool (VY a.aa (Nm a.files m).dict))/\w3=w'):=λw'=>by
      have:=ZQ (Nm a.files m).dict 0 (k:Nat) w';unfold VY;rw[vt.out];exact this
     have HP:Hid (∀x y z,bI (Nm a.files m).name=x->(decide (m=0)||VI (Nm a.files (m-1)).name (Nm a.files m).name)=y->dR a.aa (Nm a.files m)=z->dQ a m=(x&&y&&z)):=λx y z h1 h2 h3=>by unfold dQ;rw[h1,h2,h3]
     have jx:=Za (Te.out m hlt)
     have HQ:Hid (c=1->∀w',ae w w'->(Ending.returned (.int .i64 1)=Ending.returned (.int .i64 c))/\ae w w'):=λh1 w' h2=>⟨by rw[h1],h2⟩
     have BF:=Za λo n=>below_drewN (B3.alloc B3.size o) n
     cases hnm:bI (Nm a.files m).name with
     |false =>
      have hg:=Za (jx.out (by rw[HP.out false _ _ hnm rfl rfl];rfl));rw[hnm]at CN;clear hnm HP jx CW;generalize (Nm a.files m).name=f0 at*;generalize (Nm a.files m).dict=f1 at*;generalize (Nm a.files m).size=f2 at*;generalize (Nm a.files m).sum=f3 at*;generalize (Nm a.files m).blk=f4 at*;go_wp2_with fail
      go_quiet ((go_at_call 78;exact Calls.quiet_of_same (CN.out _)))
      all_goals
       go_wp2_with fail
       go_ret
       exact HQ.out hg.out _ (BF.out _ _)
     |true =>
      rw[hnm]at CN;by_cases hm0:m=0
      ·have d3:=dF (by omega:¬((0:Int)<(m:Int)));have nH:=dF (by omega:¬(0<m));have hord:(decide (m=0)||VI (Nm a.files (m-1)).name (Nm a.files m).name)=true:=by rw[decide_eq_true hm0];rfl
       clear hm0
       cases hhas:VY a.aa (Nm a.files m).dict with
       |false =>
        have hg:=Za (jx.out (by rw[HP.out true true false hnm hord (by unfold dR;rw[hhas];rfl)];rfl));rw[hhas]at CW;clear hnm HP jx hhas hord;generalize (Nm a.files m).name=f0 at*;generalize (Nm a.files m).dict=f1 at*;generalize (Nm a.files m).size=f2 at*;generalize (Nm a.files m).sum=f3 at*;generalize (Nm a.files m).blk=f4 at*;go_wp2_with fail
        go_quiet (first|(go_at_call 78;exact Calls.quiet_of_same (CN.out _))|(go_at_call 79;exact Calls.quiet_of_same (CW.out _)))
        all_goals
         go_wp2_with fail
         go_ret
         exact HQ.out hg.out _ (BF.out _ _)
       |true =>
        have CD:=Za (HD.out _ hhas);have CU:=Za (dt.out m);have HO:Hid (∀z,dR a.aa (Nm a.files m)=z->dQ a m=z):=λz h9=>by rw[HP.out true true z hnm hord h9];rfl
        have HE:Hid (dR a.aa (Nm a.files m)=decide ((Wd a.aa (Nm a.files m)).2=0/\((Wd a.aa (Nm a.files m)).1.size:Int)=(Nm a.files m).size/\Wn (Wd a.aa (Nm a.files m)).1=(Nm a.files m).sum)):=by show _=_;unfold dR;rw[hhas,Bool.true_and]
        have HZ:Hid ((Wd a.aa (Nm a.files m)).2=0->(Wd a.aa (Nm a.files m)).1.size<=512):=λh9=>Bk.cD h9
        rw[hhas]at CW;have A7:Hid (dQ a m=true->WW a (m+1)=true):=λh9=>by rw[WW,A0.out,h9];rfl
        clear hnm HP hhas hord;unfold nY at CU
        obtain⟨U,hU⟩:∃U,Wd a.aa (Nm a.files m)=U:=⟨_,rfl⟩
        simp only[hU]at CU HE HZ;obtain⟨T,E⟩:=U;simp only at CU HE HZ;clear hU;generalize dR a.aa (Nm a.files m)=ok at*;generalize V5 a.aa (Nm a.files m).dict=X at*;generalize (Nm a.files m).name=f0 at*;generalize (Nm a.files m).dict=f1 at*;generalize (Nm a.files m).size=f2 at*;generalize (Nm a.files m).sum=f3 at*;generalize (Nm a.files m).blk=f4 at*;go_wp2_with fail
        go_quiet (first|(go_at_call 78;exact Calls.quiet_of_same (CN.out _))|(go_at_call 79;exact Calls.quiet_of_same (CW.out _)))
        all_goals
         have jU:wr.heap.size<(wr.alloc (.cells #[.string f0,.int .i64 f1,.int .i64 f2,.int .i64 f3,.string f4] 73 (0,0))).heap.size:=by simp
         have BA:ae wr (wr.alloc (.cells #[.string f0,.int .i64 f1,.int .i64 f2,.int .i64 f3,.string f4] 73 (0,0))):=(bR _ _).alloc (nl _) _;have B9:=below_drewN (bR (wr.alloc (.cells #[.string f0,.int .i64 f1,.int .i64 f2,.int .i64 f3,.string f4] 73 (0,0))).heap.size (wr.alloc (.cells #[.string f0,.int .i64 f1,.int .i64 f2,.int .i64 f3,.string f4] 73 (0,0)))) nq;have hF:=λi=>(B9.cell (p:=⟨wr.heap.size,i,none⟩) jU).trans (cN wr #[.string f0,.int .i64 f1,.int .i64 f2,.int .i64 f3,.string f4] 73 i)
         have iT:=nT jU B9.size;have ly:=ag BA B9;clear BA B9 jU;generalize (wr.alloc (.cells #[.string f0,.int .i64 f1,.int .i64 f2,.int .i64 f3,.string f4] 73 (0,0))).drewN nq=wF at*;have q0:=(ly.cell (p:=⟨w.heap.size,0,none⟩) hz2).trans a0';have q1:=(ly.cell (p:=⟨w.heap.size,1,none⟩) hz2).trans a1';have lW:=nT hz2 ly.size;have k1:wF.cell? ⟨wr.heap.size,1,none⟩=some (.int .i64 f1):=hF 1;have k2:wF.cell? ⟨wr.heap.size,2,none⟩=some (.int .i64 f2):=hF 2;have k3:wF.cell? ⟨wr.heap.size,3,none⟩=some (.int .i64 f3):=hF 3;have k4:wF.cell? ⟨wr.heap.size,4,none⟩=some (.string f4):=hF 4;have B10:=ag B3 ly;have B11:=ag B2 ly
         have HS:Hid (∀w',ae wF w'->ae wF w'/\w'.cell? ⟨w.heap.size,0,none⟩=some (.slice ad k cd)/\w'.cell? ⟨w.heap.size,1,none⟩=some (.slice (some ⟨b,off,none⟩) N cf)/\w'.cell? ⟨wr.heap.size,1,none⟩=some (.int .i64 f1)/\w'.cell? ⟨wr.heap.size,4,none⟩=some (.string f4)):=λw' h9 =>
          ⟨h9,(h9.cell (p:=⟨w.heap.size,0,none⟩) lW).trans q0,(h9.cell (p:=⟨w.heap.size,1,none⟩) lW).trans q1,(h9.cell (p:=⟨wr.heap.size,1,none⟩) iT).trans k1,(h9.cell (p:=⟨wr.heap.size,4,none⟩) iT).trans k4⟩
         have bQ:=Za λw' (h9:ae wF w')=>CD.out w' (ag B10 h9)
         clear hF a0 a1 a0' a1' q0 q1 c0 c1 c2 c3 c4 CD CN CW BF HF HD dt
         obtain⟨Fb,tQ⟩:∃Fb,wr.heap.size=Fb:=⟨_,rfl⟩
         rw[tQ]at HS k1 k2 k3 k4 iT |-
         clear tQ;by_cases hE:E=0
         ·have lz:Hid (∀w',CB 80 #[.string X,.string f4] w' (.tuple #[.string T,.bool true])):=λw'=>(CU.out w').mono (by
           rintro e w2 ⟨x,rfl,h1,_,G⟩
           exact⟨by rw[h1 hE,decide_eq_true hE],G⟩)
          have hT:=HZ.out hE;have hT':(T.size:Int)<=512:=by omega
          have C6:Hid (∀w',Calls prog 82 #[.string T] w' λe w2=>e=.returned (.int .i64 (Wn T))/\w2=w'):=λw'=>wX T w' (by omega)
          have j8:Hid (ok=decide ((T.size:Int)=f2/\Wn T=f3)):=by show _=_;rw[HE.out];simp[hE]
          clear CU HE HZ hE;generalize Wn T=M at*;go_wp2_with fail
          go_region_held3 (λw'=>ae wF w'/\w'.cell? ⟨w.heap.size,0,none⟩=some (.slice ad k cd)/\w'.cell? ⟨w.heap.size,1,none⟩=some (.slice (some ⟨b,off,none⟩) N cf)/\w'.cell? ⟨Fb,1,none⟩=some (.int .i64 f1)/\w'.cell? ⟨Fb,4,none⟩=some (.string f4))
           (first|(exact HS.out _ ((bR _ _).drew))|(exact HS.out _ (ag (And.left (by assumption)) G6))|(exact HS.out _ (ag (And.left (by assumption)) G5)))
           (first
            |(go_at_call 81;refine(bQ.out _ ?_).mono ?_;exact And.left (by assumption);rintro e w5 ⟨rfl,G5⟩)
            |(go_at_call 80;refine(lz.out _).mono ?_;rintro e w6 ⟨rfl,G6⟩))
          all_goals
           have lA:=ag (ag ((bR _ _).drew) G5) G6;have n2:=(lA.cell (p:=⟨Fb,2,none⟩) iT).trans k2;have n3:=(lA.cell (p:=⟨Fb,3,none⟩) iT).trans k3;have lB:=ag B10 lA;have tR:=ag B11 lA
           have lC:Hid (∀n,ae w (w6.drewN n)/\ae w1 (w6.drewN n)):=λn=>⟨below_drewN lB n,below_drewN tR n⟩
           clear G5 G6 HS bQ lz k1 k2 k3 k4 B10 B11 lA lB tR;by_cases h2:(T.size:Int)=f2
           ·by_cases h3:M=f3
            ·have hok:=Za (HO.out true (by rw[j8.out];exact al ⟨h2,h3⟩));have e3:(M==f3)=true:=by simpa using h3
             have e4:(M != f3)=false:=by simpa using h3
             have e5:((T.size:Int)==f2)=true:=by simpa using h2
             have e6:((T.size:Int) != f2)=false:=by simpa using h2
             subst h3 h2;clear j8 HO;go_wp2_with fail
             go_quiet ((go_at_call 82;exact Calls.quiet_of_same (C6.out _)))
             all_goals
              go_wp2_with fail
              go_roundw
              case rel=>exact⟨m+1,by omega,by go_num,A7.out hok.out,(lC.out _).2⟩
              case measure=>simp[intOf];omega
            ·have hok:=Za (jx.out (HO.out false (by rw[j8.out];exact dF (λh=>h3 h.2))));have e3:(M==f3)=false:=by simpa using h3
             have e4:(M != f3)=true:=by simpa using h3
             have e5:=dF h3;subst h2;clear j8 HO h3;go_wp2_with fail
             go_quiet ((go_at_call 82;exact Calls.quiet_of_same (C6.out _)))
             all_goals
              go_wp2_with fail
              go_ret
              exact HQ.out hok.out _ (lC.out _).1
           ·have hok:=Za (jx.out (HO.out false (by rw[j8.out];exact dF (λh=>h2 h.1))));have e3:((T.size:Int)==f2)=false:=by simpa using h2
            have e4:((T.size:Int) != f2)=true:=by simpa using h2
            have e5:=dF h2;clear j8 HO h2 C6;go_wp2_with fail
            go_quiet (fail)
            all_goals
             go_wp2_with fail
             go_ret
             exact HQ.out hok.out _ (lC.out _).1
         ·have lz:Hid (∀w',Calls prog 80 #[.string X,.string f4] w' λe w2=>∃x,e=.returned (.tuple #[.string x,.bool false])/\ae w' w2):=λw'=>(CU.out w').mono (by
           rintro e w2 ⟨x,rfl,_,_,G⟩
           exact⟨x,by rw[decide_eq_false hE],G⟩)
          have hok:=Za (jx.out (HO.out false (by rw[HE.out];exact dF (λh=>hE h.1))));clear CU HE HZ hE HO;go_wp2_with fail
          go_region_held3 (λw'=>ae wF w'/\w'.cell? ⟨w.heap.size,0,none⟩=some (.slice ad k cd)/\w'.cell? ⟨w.heap.size,1,none⟩=some (.slice (some ⟨b,off,none⟩) N cf)/\w'.cell? ⟨Fb,1,none⟩=some (.int .i64 f1)/\w'.cell? ⟨Fb,4,none⟩=some (.string f4))
           (first|(exact HS.out _ ((bR _ _).drew))|(exact HS.out _ (ag (And.left (by assumption)) G6))|(exact HS.out _ (ag (And.left (by assumption)) G5)))
           (first
            |(go_at_call 81;refine(bQ.out _ ?_).mono ?_;exact And.left (by assumption);rintro e w5 ⟨rfl,G5⟩)
            |(go_at_call 80;refine(lz.out _).mono ?_;rintro e w6 ⟨x,rfl,G6⟩))
          all_goals
           have lB:=ag B10 (ag (ag ((bR _ _).drew) G5) G6);have lC:=Za λn=>below_drewN lB n
           clear G5 G6 HS bQ lz k1 k2 k3 k4 B10 B11 lB;go_wp2_with fail
           go_quiet (fail)
           all_goals
            go_wp2_with fail
            go_ret
            exact HQ.out hok.out _ (lC.out _)
      ·have d3:=al (by omega:(0:Int)<(m:Int));have nH:=al (by omega:0<m);have hw1:IntKind.i64.wrap ((m:Int)-1)=(m:Int)-1:=IntWalk.i64_in _ ⟨by omega,by omega⟩;obtain⟨b',off',kO,_,og⟩:=HF.out wr B3 (m-1) (by omega);simp only[Option.some.injEq,Addr.mk.injEq,and_true]at kO;obtain⟨rfl,rfl⟩:=kO;have p0:=og.c0;have p0':wr.cell? ⟨b,off+((m:Int)-1).toNat*5,none⟩=some (.string (Nm a.files (m-1)).name):=by rw[show((m:Int)-1).toNat=m-1 by omega];exact p0
       clear og
       cases dV:VI (Nm a.files (m-1)).name (Nm a.files m).name with
       |false =>
        have hord:(decide (m=0)||VI (Nm a.files (m-1)).name (Nm a.files m).name)=false:=by rw[decide_eq_false hm0,dV];rfl
        have hg:=Za (jx.out (by rw[HP.out true false _ hnm hord rfl];rfl));clear hnm HP jx CW hord;unfold VI at dV;generalize (Nm a.files (m-1)).name=f9 at*;generalize (Nm a.files m).name=f0 at*;generalize (Nm a.files m).dict=f1 at*;generalize (Nm a.files m).size=f2 at*;generalize (Nm a.files m).sum=f3 at*;generalize (Nm a.files m).blk=f4 at*;go_wp2_with fail
        go_quiet ((go_at_call 78;exact Calls.quiet_of_same (CN.out _)))
        all_goals
         go_wp2_with fail
         go_ret
         exact HQ.out hg.out _ (BF.out _ _)
       |true =>
        have hord:(decide (m=0)||VI (Nm a.files (m-1)).name (Nm a.files m).name)=true:=by rw[decide_eq_false hm0,dV];rfl
        unfold VI at dV;generalize (Nm a.files (m-1)).name=f9 at*
        cases hhas:VY a.aa (Nm a.files m).dict with
        |false =>
         have hg:=Za (jx.out (by rw[HP.out true true false hnm hord (by unfold dR;rw[hhas];rfl)];rfl));rw[hhas]at CW;clear hnm HP jx hhas hord;generalize (Nm a.files m).name=f0 at*;generalize (Nm a.files m).dict=f1 at*;generalize (Nm a.files m).size=f2 at*;generalize (Nm a.files m).sum=f3 at*;generalize (Nm a.files m).blk=f4 at*;go_wp2_with fail
         go_quiet (first|(go_at_call 78;exact Calls.quiet_of_same (CN.out _))|(go_at_call 79;exact Calls.quiet_of_same (CW.out _)))
         all_goals
          go_wp2_with fail
          go_ret
          exact HQ.out hg.out _ (BF.out _ _)
        |true =>
         have CD:=Za (HD.out _ hhas);have CU:=Za (dt.out m);have HO:Hid (∀z,dR a.aa (Nm a.files m)=z->dQ a m=z):=λz h9=>by rw[HP.out true true z hnm hord h9];rfl
         have HE:Hid (dR a.aa (Nm a.files m)=decide ((Wd a.aa (Nm a.files m)).2=0/\((Wd a.aa (Nm a.files m)).1.size:Int)=(Nm a.files m).size/\Wn (Wd a.aa (Nm a.files m)).1=(Nm a.files m).sum)):=by show _=_;unfold dR;rw[hhas,Bool.true_and]
         have HZ:Hid ((Wd a.aa (Nm a.files m)).2=0->(Wd a.aa (Nm a.files m)).1.size<=512):=λh9=>Bk.cD h9
         rw[hhas]at CW;have A7:Hid (dQ a m=true->WW a (m+1)=true):=λh9=>by rw[WW,A0.out,h9];rfl
         clear hnm HP hhas hord;unfold nY at CU
         obtain⟨U,hU⟩:∃U,Wd a.aa (Nm a.files m)=U:=⟨_,rfl⟩
         simp only[hU]at CU HE HZ;obtain⟨T,E⟩:=U;simp only at CU HE HZ;clear hU;generalize dR a.aa (Nm a.files m)=ok at*;generalize V5 a.aa (Nm a.files m).dict=X at*;generalize (Nm a.files m).name=f0 at*;generalize (Nm a.files m).dict=f1 at*;generalize (Nm a.files m).size=f2 at*;generalize (Nm a.files m).sum=f3 at*;generalize (Nm a.files m).blk=f4 at*;go_wp2_with fail
         go_quiet (first|(go_at_call 78;exact Calls.quiet_of_same (CN.out _))|(go_at_call 79;exact Calls.quiet_of_same (CW.out _)))
         all_goals
          have jU:wr.heap.size<(wr.alloc (.cells #[.string f0,.int .i64 f1,.int .i64 f2,.int .i64 f3,.string f4] 73 (0,0))).heap.size:=by simp
          have BA:ae wr (wr.alloc (.cells #[.string f0,.int .i64 f1,.int .i64 f2,.int .i64 f3,.string f4] 73 (0,0))):=(bR _ _).alloc (nl _) _;have B9:=below_drewN (bR (wr.alloc (.cells #[.string f0,.int .i64 f1,.int .i64 f2,.int .i64 f3,.string f4] 73 (0,0))).heap.size (wr.alloc (.cells #[.string f0,.int .i64 f1,.int .i64 f2,.int .i64 f3,.string f4] 73 (0,0)))) nq;have hF:=λi=>(B9.cell (p:=⟨wr.heap.size,i,none⟩) jU).trans (cN wr #[.string f0,.int .i64 f1,.int .i64 f2,.int .i64 f3,.string f4] 73 i)
          have iT:=nT jU B9.size;have ly:=ag BA B9;clear BA B9 jU;generalize (wr.alloc (.cells #[.string f0,.int .i64 f1,.int .i64 f2,.int .i64 f3,.string f4] 73 (0,0))).drewN nq=wF at*;have q0:=(ly.cell (p:=⟨w.heap.size,0,none⟩) hz2).trans a0';have q1:=(ly.cell (p:=⟨w.heap.size,1,none⟩) hz2).trans a1';have lW:=nT hz2 ly.size;have k1:wF.cell? ⟨wr.heap.size,1,none⟩=some (.int .i64 f1):=hF 1;have k2:wF.cell? ⟨wr.heap.size,2,none⟩=some (.int .i64 f2):=hF 2;have k3:wF.cell? ⟨wr.heap.size,3,none⟩=some (.int .i64 f3):=hF 3;have k4:wF.cell? ⟨wr.heap.size,4,none⟩=some (.string f4):=hF 4;have B10:=ag B3 ly;have B11:=ag B2 ly
          have HS:Hid (∀w',ae wF w'->ae wF w'/\w'.cell? ⟨w.heap.size,0,none⟩=some (.slice ad k cd)/\w'.cell? ⟨w.heap.size,1,none⟩=some (.slice (some ⟨b,off,none⟩) N cf)/\w'.cell? ⟨wr.heap.size,1,none⟩=some (.int .i64 f1)/\w'.cell? ⟨wr.heap.size,4,none⟩=some (.string f4)):=λw' h9 =>
           ⟨h9,(h9.cell (p:=⟨w.heap.size,0,none⟩) lW).trans q0,(h9.cell (p:=⟨w.heap.size,1,none⟩) lW).trans q1,(h9.cell (p:=⟨wr.heap.size,1,none⟩) iT).trans k1,(h9.cell (p:=⟨wr.heap.size,4,none⟩) iT).trans k4⟩
          have bQ:=Za λw' (h9:ae wF w')=>CD.out w' (ag B10 h9)
          clear hF a0 a1 a0' a1' q0 q1 c0 c1 c2 c3 c4 CD CN CW BF HF HD dt
          obtain⟨Fb,tQ⟩:∃Fb,wr.heap.size=Fb:=⟨_,rfl⟩
          rw[tQ]at HS k1 k2 k3 k4 iT |-
          clear tQ;by_cases hE:E=0
          ·have lz:Hid (∀w',CB 80 #[.string X,.string f4] w' (.tuple #[.string T,.bool true])):=λw'=>(CU.out w').mono (by
            rintro e w2 ⟨x,rfl,h1,_,G⟩
            exact⟨by rw[h1 hE,decide_eq_true hE],G⟩)
           have hT:=HZ.out hE;have hT':(T.size:Int)<=512:=by omega
           have C6:Hid (∀w',Calls prog 82 #[.string T] w' λe w2=>e=.returned (.int .i64 (Wn T))/\w2=w'):=λw'=>wX T w' (by omega)
           have j8:Hid (ok=decide ((T.size:Int)=f2/\Wn T=f3)):=by show _=_;rw[HE.out];simp[hE]
           clear CU HE HZ hE;generalize Wn T=M at*;go_wp2_with fail
           go_region_held3 (λw'=>ae wF w'/\w'.cell? ⟨w.heap.size,0,none⟩=some (.slice ad k cd)/\w'.cell? ⟨w.heap.size,1,none⟩=some (.slice (some ⟨b,off,none⟩) N cf)/\w'.cell? ⟨Fb,1,none⟩=some (.int .i64 f1)/\w'.cell? ⟨Fb,4,none⟩=some (.string f4))
            (first|(exact HS.out _ ((bR _ _).drew))|(exact HS.out _ (ag (And.left (by assumption)) G6))|(exact HS.out _ (ag (And.left (by assumption)) G5)))
            (first
             |(go_at_call 81;refine(bQ.out _ ?_).mono ?_;exact And.left (by assumption);rintro e w5 ⟨rfl,G5⟩)
             |(go_at_call 80;refine(lz.out _).mono ?_;rintro e w6 ⟨rfl,G6⟩))
           all_goals
            have lA:=ag (ag ((bR _ _).drew) G5) G6;have n2:=(lA.cell (p:=⟨Fb,2,none⟩) iT).trans k2;have n3:=(lA.cell (p:=⟨Fb,3,none⟩) iT).trans k3;have lB:=ag B10 lA;have tR:=ag B11 lA
            have lC:Hid (∀n,ae w (w6.drewN n)/\ae w1 (w6.drewN n)):=λn=>⟨below_drewN lB n,below_drewN tR n⟩
            clear G5 G6 HS bQ lz k1 k2 k3 k4 B10 B11 lA lB tR;by_cases h2:(T.size:Int)=f2
            ·by_cases h3:M=f3
             ·have hok:=Za (HO.out true (by rw[j8.out];exact al ⟨h2,h3⟩));have e3:(M==f3)=true:=by simpa using h3
              have e4:(M != f3)=false:=by simpa using h3
              have e5:((T.size:Int)==f2)=true:=by simpa using h2
              have e6:((T.size:Int) != f2)=false:=by simpa using h2
              subst h3 h2;clear j8 HO;go_wp2_with fail
              go_quiet ((go_at_call 82;exact Calls.quiet_of_same (C6.out _)))
              all_goals
               go_wp2_with fail
               go_roundw
               case rel=>exact⟨m+1,by omega,by go_num,A7.out hok.out,(lC.out _).2⟩
               case measure=>simp[intOf];omega
             ·have hok:=Za (jx.out (HO.out false (by rw[j8.out];exact dF (λh=>h3 h.2))));have e3:(M==f3)=false:=by simpa using h3
              have e4:(M != f3)=true:=by simpa using h3
              have e5:=dF h3;subst h2;clear j8 HO h3;go_wp2_with fail
              go_quiet ((go_at_call 82;exact Calls.quiet_of_same (C6.out _)))
              all_goals
               go_wp2_with fail
               go_ret
               exact HQ.out hok.out _ (lC.out _).1
            ·have hok:=Za (jx.out (HO.out false (by rw[j8.out];exact dF (λh=>h2 h.1))));have e3:((T.size:Int)==f2)=false:=by simpa using h2
             have e4:((T.size:Int) != f2)=true:=by simpa using h2
             have e5:=dF h2;clear j8 HO h2 C6;go_wp2_with fail
             go_quiet (fail)
             all_goals
              go_wp2_with fail
              go_ret
              exact HQ.out hok.out _ (lC.out _).1
          ·have lz:Hid (∀w',Calls prog 80 #[.string X,.string f4] w' λe w2=>∃x,e=.returned (.tuple #[.string x,.bool false])/\ae w' w2):=λw'=>(CU.out w').mono (by
            rintro e w2 ⟨x,rfl,_,_,G⟩
            exact⟨x,by rw[decide_eq_false hE],G⟩)
           have hok:=Za (jx.out (HO.out false (by rw[HE.out];exact dF (λh=>hE h.1))));clear CU HE HZ hE HO;go_wp2_with fail
           go_region_held3 (λw'=>ae wF w'/\w'.cell? ⟨w.heap.size,0,none⟩=some (.slice ad k cd)/\w'.cell? ⟨w.heap.size,1,none⟩=some (.slice (some ⟨b,off,none⟩) N cf)/\w'.cell? ⟨Fb,1,none⟩=some (.int .i64 f1)/\w'.cell? ⟨Fb,4,none⟩=some (.string f4))
            (first|(exact HS.out _ ((bR _ _).drew))|(exact HS.out _ (ag (And.left (by assumption)) G6))|(exact HS.out _ (ag (And.left (by assumption)) G5)))
            (first
             |(go_at_call 81;refine(bQ.out _ ?_).mono ?_;exact And.left (by assumption);rintro e w5 ⟨rfl,G5⟩)
             |(go_at_call 80;refine(lz.out _).mono ?_;rintro e w6 ⟨x,rfl,G6⟩))
           all_goals
            have lB:=ag B10 (ag (ag ((bR _ _).drew) G5) G6);have lC:=Za λn=>below_drewN lB n
            clear G5 G6 HS bQ lz k1 k2 k3 k4 B10 B11 lB;go_wp2_with fail
            go_quiet (fail)
            all_goals
             go_wp2_with fail
             go_ret
             exact HQ.out hok.out _ (lC.out _)
    ·obtain rfl:m=N:=by omega
     have d2:decide ((m:Int)<(m:Int))=false:=by simp
     have HR:=Za (Tf.out A0.out);go_wp2_with fail
     go_ret
     exact⟨congrArg (λx=>Ending.returned (Value.int .i64 x)) HR.out.symm,B3⟩
theorem Zn(ad af:Option Addr)(cd cf:Nat)(a:Ar.A)(w:World)(h:bo w ad af a)(hs:ao a) :
 CB 44 #[av ad cd af cf a] w (.int .i64 (Vz a)):=by
 by_cases hm:4<a.aa.length\/12<a.files.length
 ·have e:Vz a=2:=by
   have:W6 a=true:=by unfold W6;rw[decide_eq_true hm];rfl
   unfold Vz;rw[ax this]
  rw[e];exact Tc ad af cd cf a w hs.nd hs.nf hm
 ·exact Td ad af cd cf a w h hs (by omega) (by omega)
theorem Tg(ad af:Option Addr)(cd cf:Nat)(a:Ar.A)(name text:ByteArray)(dict:Int)(w:World)(h:bo w ad af a)(hs:ao a)(hc:Vz a≠0) :
 Calls prog 47 #[av ad cd af cf a,.string name,.string text,.int .i64 dict] w λe w'=>ah w VC (Vz a) e w':=by
 have C1:=Za λw' (h9:ae w w')=>Zn ad af cd cf a w' (h.below h9) hs
 have hQ:Hid (∀w',ae w w'->ah w VC (Vz a) (.returned (.tuple #[.agg #[.slice none 0 0,.slice none 0 0],.int .i64 (Vz a)])) w'):=λw' h9=>ZC h9
 generalize ah w VC (Vz a)=Q at*;unfold av at C1 |-
 generalize Vz a=E at*;have e1:(E != 0)=true:=by simpa using hc
 have e2:(E==0)=false:=by simpa using hc
 clear hc;generalize a.aa.length=D at*;generalize a.files.length=N at*;clear h hs;go_enter func47,ntmps47
 go_wp2_with fail
 refine mo (C1.out _ (Fr.start w _ _).b) λw1 G1=>?_
 have F1:=(Fr.start w _ _).next G1;clear G1;obtain⟨b,a0,a1,r0,r1,z0,z1,hz⟩:=id F1;go_wp2_with fail
 rw[F1.zero];exact bodyPost_ret (v:=.tuple #[.agg #[.slice none 0 0,.slice none 0 0],.int .i64 E]) (by simp[results,results47,go_sem,F1.r0,F1.r1]) rfl (hQ.out _ F1.b)
theorem Th(ad af:Option Addr)(cd cf:Nat)(a:Ar.A)(name text:ByteArray)(dict:Int)(w:World)(h:bo w ad af a)(hs:ao a)(hn:name.size<=140737488355328)(hc:Vz a=0)(hm:bI name=false) :
 Calls prog 47 #[av ad cd af cf a,.string name,.string text,.int .i64 dict] w λe w'=>ah w VC 4 e w':=by
 have C1:=Za λw' (h9:ae w w')=>Zn ad af cd cf a w' (h.below h9) hs
 have C2:=Za λw'=>sv name w' hn
 have hQ:Hid (∀w',ae w w'->ah w VC 4 (.returned (.tuple #[.agg #[.slice none 0 0,.slice none 0 0],.int .i64 4])) w'):=λw' h9=>ZC h9
 generalize ah w VC 4=Q at*;rw[hc]at C1;rw[hm]at C2;clear hc hm hn;unfold av at C1 |-
 generalize a.aa.length=D at*;generalize a.files.length=N at*;clear h hs;go_enter func47,ntmps47
 go_wp2_with fail
 refine mo (C1.out _ (Fr.start w _ _).b) λw1 G1=>?_
 have F1:=(Fr.start w _ _).next G1;clear G1;obtain⟨b,a0,a1,r0,r1,z0,z1,hz⟩:=id F1;go_wp2_with fail
 refine mo (C2.out _) ?_;rintro w2 rfl;go_wp2_with fail
 rw[F1.zero];exact bodyPost_ret (v:=.tuple #[.agg #[.slice none 0 0,.slice none 0 0],.int .i64 4]) (by simp[results,results47,go_sem,F1.r0,F1.r1]) rfl (hQ.out _ F1.b)
theorem Ti(ad af:Option Addr)(cd cf:Nat)(a:Ar.A)(name text:ByteArray)(dict:Int)(w:World)(h:bo w ad af a)(hs:ao a)(hn:name.size<=140737488355328)(hc:Vz a=0)(hm:bI name=true)(hd:VY a.aa dict=false) :
 Calls prog 47 #[av ad cd af cf a,.string name,.string text,.int .i64 dict] w λe w'=>ah w VC 3 e w':=by
 have C1:=Za λw' (h9:ae w w')=>Zn ad af cd cf a w' (h.below h9) hs
 have C2:=Za λw'=>sv name w' hn
 have C3:Hid (∀w',Calls prog 79 #[.int .i64 dict,.int .i64 0,.int .i64 (a.aa.length:Nat)] w' λe w2=>e=.returned (.bool (VY a.aa dict))/\w2=w'):=λw'=>ZQ dict 0 (a.aa.length:Nat) w'
 have hQ:Hid (∀w',ae w w'->ah w VC 3 (.returned (.tuple #[.agg #[.slice none 0 0,.slice none 0 0],.int .i64 3])) w'):=λw' h9=>ZC h9
 generalize ah w VC 3=Q at*;rw[hc]at C1;rw[hm]at C2;rw[hd]at C3;clear hc hm hn hd;unfold av at C1 |-
 generalize a.aa.length=D at*;generalize a.files.length=N at*;clear h hs;go_enter func47,ntmps47
 go_wp2_with fail
 refine mo (C1.out _ (Fr.start w _ _).b) λw1 G1=>?_
 have F1:=(Fr.start w _ _).next G1;clear G1;obtain⟨b,a0,a1,r0,r1,z0,z1,hz⟩:=id F1;go_wp2_with fail
 refine mo (C2.out _) ?_;rintro w2 rfl;go_wp2_with fail
 refine mo (C3.out _) ?_;rintro w3 rfl;go_wp2_with fail
 rw[F1.zero];exact bodyPost_ret (v:=.tuple #[.agg #[.slice none 0 0,.slice none 0 0],.int .i64 3]) (by simp[results,results47,go_sem,F1.r0,F1.r1]) rfl (hQ.out _ F1.b)
theorem Tj(ad af:Option Addr)(cd cf:Nat)(a:Ar.A)(name text:ByteArray)(dict:Int)(w:World)(h:bo w ad af a)(hs:ao a)(hn:name.size<=140737488355328)(hc:Vz a=0)(hm:bI name=true)(hd:VY a.aa dict=true)(hl:512<text.size) :
 Calls prog 47 #[av ad cd af cf a,.string name,.string text,.int .i64 dict] w λe w'=>ah w VC 2 e w':=by
 have C1:=Za λw' (h9:ae w w')=>Zn ad af cd cf a w' (h.below h9) hs
 have C2:=Za λw'=>sv name w' hn
 have C3:Hid (∀w',Calls prog 79 #[.int .i64 dict,.int .i64 0,.int .i64 (a.aa.length:Nat)] w' λe w2=>e=.returned (.bool (VY a.aa dict))/\w2=w'):=λw'=>ZQ dict 0 (a.aa.length:Nat) w'
 have hQ:Hid (∀w',ae w w'->ah w VC 2 (.returned (.tuple #[.agg #[.slice none 0 0,.slice none 0 0],.int .i64 2])) w'):=λw' h9=>ZC h9
 generalize ah w VC 2=Q at*;rw[hc]at C1;rw[hm]at C2;rw[hd]at C3;have d1:decide ((512:Int)<(text.size:Int))=true:=al (by omega);have d1':=al hl;clear hc hm hn hd;unfold av at C1 |-
 generalize a.aa.length=D at*;generalize a.files.length=N at*;clear h hs;go_enter func47,ntmps47
 go_wp2_with fail
 refine mo (C1.out _ (Fr.start w _ _).b) λw1 G1=>?_
 have F1:=(Fr.start w _ _).next G1;clear G1;obtain⟨b,a0,a1,r0,r1,z0,z1,hz⟩:=id F1;go_wp2_with fail
 refine mo (C2.out _) ?_;rintro w2 rfl;go_wp2_with fail
 refine mo (C3.out _) ?_;rintro w3 rfl;go_wp2_with fail
 rw[F1.zero];exact bodyPost_ret (v:=.tuple #[.agg #[.slice none 0 0,.slice none 0 0],.int .i64 2]) (by simp[results,results47,go_sem,F1.r0,F1.r1]) rfl (hQ.out _ F1.b)
namespace Ar
theorem Il(fs:List F)(f:F):∀k,(Xi fs f k).1.length<=k+1/\((Xi fs f k).2=false->(Xi fs f k).1.length<=k)
 |0=>by simp[Xi]
 |k+1=>by
  have ih:=Il fs f k;rw[Xi];by_cases h1:(Xi fs f k).2=false/\VI (Nm fs k).name f.name=false
  ·rw[ax h1];have:=ih.2 h1.1;by_cases h2:(Nm fs k).name=f.name
   ·rw[ax h2];simp;omega
   ·rw[ab h2];simp;omega
  ·rw[ab h1];by_cases h2:(Nm fs k).name=f.name
   ·rw[ax h2];exact⟨by omega,λh=>by have:=ih.2 h;omega⟩
   ·rw[ab h2];simp only[List.length_append,List.length_cons,List.length_nil];exact⟨by omega,λh=>by have:=ih.2 h;omega⟩
end Ar
theorem Tl(ad af:Option Addr)(cd cf:Nat)(a:Ar.A)(name text:ByteArray)(dict:Int)(w:World)(h:bo w ad af a)(hs:ao a)(hn:name.size<=140737488355328)(hc:Vz a=0)(hm:bI name=true)(hd:VY a.aa dict=true)(hl:text.size<=512)
 (R:Ar.A) (E:Int) (hR:(if 12<(lN a.files (VN a.aa name text dict)).length then(VC,(2:Int)) else(⟨a.aa,lN a.files (VN a.aa name text dict)⟩,0))=(R,E)) :
 Calls prog 47 #[av ad cd af cf a,.string name,.string text,.int .i64 dict] w λe w'=>ah w R E e w':=by
 obtain⟨i0,hi,hz0,hz1,hz2⟩:=info_parts (P:=prog) (e:=9) (z:=.string ⟨#[]⟩) (size:=1) (bytes:=16) (by kernel_rfl);obtain⟨j0,gi,ej,dX,ek⟩:=info_parts (P:=prog) (e:=73) (z:=.agg #[.string ⟨#[]⟩,.int .i64 0,.int .i64 0,.int .i64 0,.string ⟨#[]⟩]) (size:=5) (bytes:=56) (by kernel_rfl);obtain⟨m1,m2,m3⟩:=Zj.1 (VV.1 hc).1;have C1:=Za λw' (h9:ae w w')=>Zn ad af cd cf a w' (h.below h9) hs
 have C2:=Za λw'=>sv name w' hn
 have C3:Hid (∀w',Calls prog 79 #[.int .i64 dict,.int .i64 0,.int .i64 (a.aa.length:Nat)] w' λe w2=>e=.returned (.bool (VY a.aa dict))/\w2=w'):=λw'=>ZQ dict 0 (a.aa.length:Nat) w'
 have C4:=Za λw' (h9:ae w w')=>Ik ad af cd cf a name text dict w' (h.ds.below h9) hs.nd hd (XJ (VV.1 hc).1 _) hl
 have HDn:=Za λw' (h9:ae w w')=>(h.ds.below h9).news
 have cy:Hid (∀k,k<a.files.length->∃b off,af=some ⟨b,off,none⟩/\b<w.heap.size/\Hid (∀w',ae w w'->w'.cell? ⟨b,off+k*5,none⟩=some (.string (Nm a.files k).name)/\w'.cell? ⟨b,off+k*5+1,none⟩=some (.int .i64 (Nm a.files k).dict)/\w'.cell? ⟨b,off+k*5+2,none⟩=some (.int .i64 (Nm a.files k).size)/\w'.cell? ⟨b,off+k*5+3,none⟩=some (.int .i64 (Nm a.files k).sum)/\w'.cell? ⟨b,off+k*5+4,none⟩=some (.string (Nm a.files k).blk))):=λk hk=>by
  obtain⟨b,off,h1,h2,h3⟩:=h.fs.at hk;refine⟨b,off,h1,h2,λw' h9=>?_⟩;obtain⟨k0,k1,k2,k3,k4⟩:=h3.below h9 h2;exact⟨k0,k1,k2,k3,k4⟩
 have it:Hid ((a.aa.map Value.string).length=a.aa.length*1):=by show _=_;simp
 have HD1:Hid (∀u∈a.aa.map Value.string,u.oneCell'=true):=λu hu=>by obtain⟨x,_,rfl⟩:=List.mem_map.1 hu;rfl
 rw[hc]at C1;rw[hm]at C2;rw[hd]at C3;have d1:decide ((512:Int)<(text.size:Int))=false:=dF (by omega);have d1':decide (512<text.size)=false:=dF (by omega)
 have qK:Hid (12<(lN a.files (VN a.aa name text dict)).length->∀w',ae w w'->ah w R E (.returned (.tuple #[.agg #[.slice none 0 0,.slice none 0 0],.int .i64 2])) w'):=λh9 w' h8=>by
  rw[ax h9]at hR;simp only[Prod.mk.injEq]at hR;obtain⟨rfl,rfl⟩:=hR;exact ZC h8
 have iH:Hid (¬12<(lN a.files (VN a.aa name text dict)).length->∀v1 v2 w',w'.ownsRow w.heap.size 9 1 v1 a.aa.length (a.aa.map Value.string)->w'.ownsRow w.heap.size 73 5 v2 (lN a.files (VN a.aa name text dict)).length (aw (lN a.files (VN a.aa name text dict)))->(∀j,v1.ownBlock=some j->v2.ownBlock≠some j)->ae w w'->ah w R E (.returned (.tuple #[.agg #[v1,v2],.int .i64 0])) w'):=λh9 v1 v2 w' k1 k2 k3 k4=>by
  rw[ab h9]at hR;simp only[Prod.mk.injEq]at hR;obtain⟨rfl,rfl⟩:=hR;exact⟨v1,v2,rfl,⟨k1,k2,k3⟩,k4⟩
 generalize ah w R E=Q at*;clear hR hc hm hd hn h hs m3;have hfn:(VN a.aa name text dict).name=name:=rfl;generalize VN a.aa name text dict=f at*
 have qa:Hid (∀k d b e,(Xi a.files f k).2=d->VI (Nm a.files k).name name=b->decide ((Nm a.files k).name=name)=e->Xi a.files f (k+1)=if d=false/\b=false then(if e=true then((Xi a.files f k).1++[f],true) else(((Xi a.files f k).1++[f])++[Nm a.files k],true)) else(if e=true then Xi a.files f k else((Xi a.files f k).1++[Nm a.files k],(Xi a.files f k).2))):=λk d b e h1 h2 h3=>by
  rw[Xi,hfn,h1,h2];by_cases hq:(Nm a.files k).name=name
  ·rw[decide_eq_true hq]at h3;subst h3;rw[ax hq];rfl
  ·rw[decide_eq_false hq]at h3;subst h3;rw[ab hq];by_cases hz:d=false/\b=false
   ·rw[ax hz,ax hz];rfl
   ·rw[ab hz,ab hz,h1];rfl
 have tS:Hid (lN a.files f=if(Xi a.files f a.files.length).2=true then(Xi a.files f a.files.length).1 else(Xi a.files f a.files.length).1++[f]):=rfl;have qL:=Za λk=>(Il a.files f k).1
 have HR0:Hid (Xi a.files f 0=([],false)):=rfl;generalize Xi a.files f=rp at*;generalize lN a.files f=RE at*;have tT:Hid (∀k,aw [Nm a.files k]=[.string (Nm a.files k).name,.int .i64 (Nm a.files k).dict,.int .i64 (Nm a.files k).size,.int .i64 (Nm a.files k).sum,.string (Nm a.files k).blk]):=λk=>rfl
 have wu:Hid (aw [f]=[.string f.name,.int .i64 f.dict,.int .i64 f.size,.int .i64 f.sum,.string f.blk]):=rfl;clear hfn;unfold av at C1 C4 |-
 unfold fv at C4;generalize f.name=g0 at*;generalize f.dict=g1 at*;generalize f.size=g2 at*;generalize f.sum=g3 at*;generalize f.blk=g4 at*
 obtain⟨D,hDD⟩:∃D,a.aa.length=D:=⟨_,rfl⟩
 obtain⟨N,hNN⟩:∃N,a.files.length=N:=⟨_,rfl⟩
 simp only[hDD,hNN]at C1 C3 C4 HDn cy it iH tS m1 m2 |-
 clear hDD hNN;generalize a.aa.map Value.string=ds at*;generalize Nm a.files=fa at*;have hDi:(D:Int)<=4:=by omega
 have hNi:(N:Int)<=12:=by omega
 go_enter func47,ntmps47
 go_wp2_with fail
 refine mo (C1.out _ (Fr.start w _ _).b) λw1 G1=>?_
 have F1:=(Fr.start w _ _).next G1;clear G1 C1;obtain⟨b,a0,a1,r0,r1,z0,z1,hz⟩:=id F1;go_wp2_with fail
 refine mo (C2.out _) ?_;rintro w2 rfl;clear C2;go_wp2_with fail
 refine mo (C3.out _) ?_;rintro w3 rfl;clear C3;have j5:w.heap.size<w3.heap.size:=by omega
 have O0:=vW w3 w3.heap.size 9 1 (nl _);have hD2:=HDn.out _ (F1.b.alloc (by have:=F1.b.size;omega) (.cells #[] 9 (0,0)));have fV:=it.out;have fW:=HD1.out
 go_wp2_with (first
  |(at_builtin;refine vV rfl _ _ 32 rfl w3.heap.size 9 i0 (.string ⟨#[]⟩) 1 16 je hi hz0 hz1 hz2 rfl (by decide) w3.heap.size 0 0 [] rfl O0 ad D cd ds rfl fV hD2 fW (by unfold maxLen;omega) (by omega) (by simp) _ rfl ?_;intro g cp w5 hown5 aB bc)
  |fail)
 have BX:=((bR _ _).alloc (nl _) _).grown aB (by simp) (λj hj=>by simp at hj;omega);simp only[Nat.zero_add,List.nil_append]at hown5 |-
 have S0:=cx.new1 BX BX.size hown5;clear O0 hD2 fV fW aB bc hown5 HDn it HD1 BX a0 a1 r0 r1 z0 z1 b;generalize (w5.alloc (.cells #[.slice (some ⟨g,0,none⟩) D cp,.slice none 0 0] 35 (0,0)))=w6 at*;generalize w5.heap.size=C at*;go_loopw [12,13] (λd i wr=>∃(k:Nat) (v2:Value),k<=N/\d=.bool (rp k).2/\i=.int .i64 k/\cx w3 wr C w3.heap.size (.slice (some ⟨g,0,none⟩) D cp) v2 D (rp k).1.length ds (aw (rp k).1)) (λ_ i _=>N-(intOf i).toNat)
 case atStart=>exact⟨0,_,by omega,by rw[HR0.out],rfl,by rw[HR0.out];exact S0⟩
 case round =>
  obtain⟨k,v2,hk2,rfl,rfl,S1⟩:=hrel;have F2:=F1.keep S1.bel hz;obtain⟨B2,a0,a1,r0,r1,z0,z1,hz2⟩:=id F2;by_cases hlt:k<N
  ·have e1:decide ((k:Int)<(N:Int))=true:=al (by omega);have e1':=al hlt;have hki:(k:Int)<(N:Int):=by omega
   obtain⟨b,off,rfl,hbw,oh⟩:=cy.out k hlt;obtain⟨c0,c1,c2,c3,c4⟩:=oh.out wr B2;have hbl:=nT hbw B2.size;have HRk:=qa.out k;have HFk:=tT.out k;have oe:=qL.out k;have hbe:=nN (fa k).name name;by_cases hnm:(fa k).name=name
   ·rw[decide_eq_true hnm]at hbe
    cases hdn:(rp k).2 with
    |true =>
     have HN:Hid (rp (k+1)=rp k):=by
      show _=_;rw[HRk true _ true hdn rfl (decide_eq_true hnm)];rfl
     clear HRk;generalize (fa k).name=f0 at*;generalize (fa k).dict=f1 at*;generalize (fa k).size=f2 at*;generalize (fa k).sum=f3 at*;generalize (fa k).blk=f4 at*;subst hnm;go_wp2_with fail
     go_roundw
     case rel=>exact⟨k+1,_,by omega,by rw[HN.out,hdn],by go_num,by rw[HN.out];exact S1⟩
     case measure=>simp[intOf];omega
    |false =>
     have dV:VI (fa k).name name=false:=by rw[hnm];exact jD _
     have HN:Hid (rp (k+1)=((rp k).1++[f],true)):=by
      show _=_;rw[HRk false false true hdn dV (decide_eq_true hnm)];rfl
     unfold VI at dV;clear HRk hdn;generalize (rp k).1=L at*;have bS:=S1.c1;have bX:=S1.f1;have hbC:=S1.hb;have ic:=S1.hC;obtain⟨p2,q2,rfl,_⟩:=Zq S1.o2;generalize (fa k).name=f0 at*;generalize (fa k).dict=f1 at*;generalize (fa k).size=f2 at*;generalize (fa k).sum=f3 at*;generalize (fa k).blk=f4 at*;subst hnm;go_wp2_with fail
     go_region_law (first
      |(refine gF _ rfl _ _ 33 rfl w3.heap.size 73 j0 (.agg #[.string ⟨#[]⟩,.int .i64 0,.int .i64 0,.int .i64 0,.string ⟨#[]⟩]) 5 56 eX gi ej dX ek rfl (by decide) _ _ _ rfl (S2.o2.alloc _) ⟨w8.heap.size,0,none⟩ 1 1 [.string g0,.int .i64 g1,.int .i64 g2,.int .i64 g3,.string g4] rfl rfl (jT _ _ _ _ _ _ _) (cZ _ _ _ _ _) (by decide) (by unfold maxLen;omega) (by omega) (by simp;omega) _ rfl ?_;intro g7 ch w7 ay a7 aU bM;obtain⟨⟨q1,q2⟩,S4⟩:=S2.br a7 ay aU;clear a7 ay aU bM)
      |(go_simp;go_at_call 85;refine(C4.out _ B2.drew).mono ?_;rintro e w8 ⟨rfl,G8⟩;have S2:=S1.below (Below.trans ((bR _ _).drew) G8);have jy:=S2.c1;have jz:=S2.hb;have oi:∀o,(w8.alloc o).cell? ⟨C,1,none⟩=some (.slice p2 L.length q2):=(λo=>(gW _ _ _ jz).trans jy)))
     all_goals
      have F4:=F1.keep S4.bel hz;have c1U:=S4.c1;have Tm:=S4.f1;have Tn:=S4.hb;have To:=S4.hC;have S9:=S4.below ((bR _ _).drew);obtain⟨B4,a0',a1',_,_,_,_,qM⟩:=id F4;obtain⟨c0',c1',c2',c3',Tp⟩:=oh.out _ B4;have Ba:=nT hbw B4.size;clear c0 c1 c2 c3 c4 a0 a1 r0 r1 z0 z1 F2 F4 hz2 bS bX hbC ic S1 S2 jy jz oi G8 q1 q2;generalize w7.setCell _ _=wS at*;go_wp2_with fail
      go_roundw
      case rel=>exact⟨k+1,_,by omega,by rw[HN.out],by go_num,by rw[HN.out];simp only[List.length_append,List.length_cons,List.length_nil,ZE,wu.out];exact S4⟩
      case measure=>simp[intOf];omega
   ·rw[decide_eq_false hnm]at hbe
    cases hdn:(rp k).2 with
    |true =>
     have HN:Hid (rp (k+1)=((rp k).1++[fa k],true)):=by
      show _=_;rw[HRk true _ false hdn rfl (decide_eq_false hnm),hdn];rfl
     clear HRk hdn hnm;generalize (rp k).1=L at*;have bS:=S1.c1;have bX:=S1.f1;have hbC:=S1.hb;have ic:=S1.hC;obtain⟨p2,q2,rfl,_⟩:=Zq S1.o2;have S9:=S1.below ((bR _ _).drew);generalize (fa k).name=f0 at*;generalize (fa k).dict=f1 at*;generalize (fa k).size=f2 at*;generalize (fa k).sum=f3 at*;generalize (fa k).blk=f4 at*;go_wp2_with fail
     go_region_law (first
      |(refine gF _ rfl _ _ 33 rfl w3.heap.size 73 j0 (.agg #[.string ⟨#[]⟩,.int .i64 0,.int .i64 0,.int .i64 0,.string ⟨#[]⟩]) 5 56 eX gi ej dX ek rfl (by decide) _ _ _ rfl (S9.o2.alloc _) ⟨wr.drew.heap.size,0,none⟩ 1 1 [.string f0,.int .i64 f1,.int .i64 f2,.int .i64 f3,.string f4] rfl rfl (jT _ _ _ _ _ _ _) (cZ _ _ _ _ _) (by decide) (by unfold maxLen;omega) (by omega) (by simp;omega) _ rfl ?_;intro g9 Bb w9 ay a7 aU bM;obtain⟨⟨q1,q2⟩,pv⟩:=S9.br a7 ay aU;clear a7 ay aU bM))
     all_goals
      go_wp2_with fail
      go_roundw
      case rel=>exact⟨k+1,_,by omega,by rw[HN.out],by go_num,by rw[HN.out];simp only[List.length_append,List.length_cons,List.length_nil,ZE,HFk];exact pv⟩
      case measure=>simp[intOf];omega
    |false =>
     cases dV:VI (fa k).name name with
     |true =>
      have HN:Hid (rp (k+1)=((rp k).1++[fa k],false)):=by
       show _=_;rw[HRk false true false hdn dV (decide_eq_false hnm),hdn];rfl
      unfold VI at dV;clear HRk hdn hnm;generalize (rp k).1=L at*;have bS:=S1.c1;have bX:=S1.f1;have hbC:=S1.hb;have ic:=S1.hC;obtain⟨p2,q2,rfl,_⟩:=Zq S1.o2;have S9:=S1.below ((bR _ _).drew);generalize (fa k).name=f0 at*;generalize (fa k).dict=f1 at*;generalize (fa k).size=f2 at*;generalize (fa k).sum=f3 at*;generalize (fa k).blk=f4 at*;go_wp2_with fail
      go_region_law (first
       |(refine gF _ rfl _ _ 33 rfl w3.heap.size 73 j0 (.agg #[.string ⟨#[]⟩,.int .i64 0,.int .i64 0,.int .i64 0,.string ⟨#[]⟩]) 5 56 eX gi ej dX ek rfl (by decide) _ _ _ rfl (S9.o2.alloc _) ⟨wr.drew.heap.size,0,none⟩ 1 1 [.string f0,.int .i64 f1,.int .i64 f2,.int .i64 f3,.string f4] rfl rfl (jT _ _ _ _ _ _ _) (cZ _ _ _ _ _) (by decide) (by unfold maxLen;omega) (by omega) (by simp;omega) _ rfl ?_;intro g9 Bb w9 ay a7 aU bM;obtain⟨⟨q1,q2⟩,pv⟩:=S9.br a7 ay aU;clear a7 ay aU bM))
      all_goals
       go_wp2_with fail
       go_roundw
       case rel=>exact⟨k+1,_,by omega,by rw[HN.out],by go_num,by rw[HN.out];simp only[List.length_append,List.length_cons,List.length_nil,ZE,HFk];exact pv⟩
       case measure=>simp[intOf];omega
     |false =>
      have HN:Hid (rp (k+1)=((rp k).1++[f]++[fa k],true)):=by
       show _=_;rw[HRk false false false hdn dV (decide_eq_false hnm)];rfl
      unfold VI at dV;clear HRk hdn hnm;generalize (rp k).1=L at*;have bS:=S1.c1;have bX:=S1.f1;have hbC:=S1.hb;have ic:=S1.hC;obtain⟨p2,q2,rfl,_⟩:=Zq S1.o2;generalize (fa k).name=f0 at*;generalize (fa k).dict=f1 at*;generalize (fa k).size=f2 at*;generalize (fa k).sum=f3 at*;generalize (fa k).blk=f4 at*;go_wp2_with fail
      go_region_law (first
       |(refine gF _ rfl _ _ 33 rfl w3.heap.size 73 j0 (.agg #[.string ⟨#[]⟩,.int .i64 0,.int .i64 0,.int .i64 0,.string ⟨#[]⟩]) 5 56 eX gi ej dX ek rfl (by decide) _ _ _ rfl (S2.o2.alloc _) ⟨w8.heap.size,0,none⟩ 1 1 [.string g0,.int .i64 g1,.int .i64 g2,.int .i64 g3,.string g4] rfl rfl (jT _ _ _ _ _ _ _) (cZ _ _ _ _ _) (by decide) (by unfold maxLen;omega) (by omega) (by simp;omega) _ rfl ?_;intro g7 ch w7 ay a7 aU bM;obtain⟨⟨q1,q2⟩,S4⟩:=S2.br a7 ay aU;clear a7 ay aU bM)
       |(go_simp;go_at_call 85;refine(C4.out _ B2.drew).mono ?_;rintro e w8 ⟨rfl,G8⟩;have S2:=S1.below (Below.trans ((bR _ _).drew) G8);have jy:=S2.c1;have jz:=S2.hb;have oi:∀o,(w8.alloc o).cell? ⟨C,1,none⟩=some (.slice p2 L.length q2):=(λo=>(gW _ _ _ jz).trans jy)))
      all_goals
       have F4:=F1.keep S4.bel hz;have c1U:=S4.c1;have Tm:=S4.f1;have Tn:=S4.hb;have To:=S4.hC;have S9:=S4.below ((bR _ _).drew);obtain⟨B4,a0',a1',_,_,_,_,qM⟩:=id F4;obtain⟨c0',c1',c2',c3',Tp⟩:=oh.out _ B4;have Ba:=nT hbw B4.size;clear c0 c1 c2 c3 c4 a0 a1 r0 r1 z0 z1 F2 F4 hz2 bS bX hbC ic S1 S2 jy jz oi G8 q1 q2;generalize w7.setCell _ _=wS at*;go_wp2_with fail
       go_region_law (first
        |(refine gF _ rfl _ _ 33 rfl w3.heap.size 73 j0 (.agg #[.string ⟨#[]⟩,.int .i64 0,.int .i64 0,.int .i64 0,.string ⟨#[]⟩]) 5 56 eX gi ej dX ek rfl (by decide) _ _ _ rfl (S9.o2.alloc _) ⟨wS.drew.heap.size,0,none⟩ 1 1 [.string f0,.int .i64 f1,.int .i64 f2,.int .i64 f3,.string f4] rfl rfl (jT _ _ _ _ _ _ _) (cZ _ _ _ _ _) (by decide) (by unfold maxLen;omega) (by omega) (by simp;omega) _ rfl ?_;intro g9 Bb w9 ay a7 aU bM;obtain⟨⟨q1,q2⟩,pv⟩:=S9.br a7 ay aU;clear a7 ay aU bM))
       all_goals
        go_wp2_with fail
        go_roundw
        case rel=>exact⟨k+1,_,by omega,by rw[HN.out],by go_num,by rw[HN.out];simp only[List.length_append,List.length_cons,List.length_nil,ZE,HFk,wu.out];exact pv⟩
        case measure=>simp[intOf];omega
  ·obtain rfl:k=N:=by omega
   have e1:decide ((k:Int)<(k:Int))=false:=by simp
   cases hdn:(rp k).2 with
   |true =>
    have hE:RE=(rp k).1:=by rw[tS.out,ax hdn]
    rw[<-hE]at S1;clear hdn tS hE qa qL HR0 cy tT;obtain⟨p2,q2,rfl,_⟩:=Zq S1.o2;have iU:=S1.ne;have Be:=S1.c0;have Bf:=S1.c1;have hC2:=S1.hb;by_cases hq:12<RE.length
    ·have hfin:=qK.out hq _ F2.b;have e2:decide ((12:Int)<(RE.length:Int))=true:=al (by omega);have e2':=al hq;generalize RE.length=n at*;clear S1 qK iH;go_wp2_with fail
     rw[F2.zero];exact bodyPost_ret (v:=.tuple #[.agg #[.slice none 0 0,.slice none 0 0],.int .i64 2]) (by simp[results,results47,go_sem,F2.r0,F2.r1]) rfl hfin
    ·obtain⟨Bz,eS,eU,gd,gw⟩:=lP F2.b S1.o1 S1.o2 hz F2.r0 F2.r1;have hfin:=iH.out hq _ _ _ eS eU iU Bz;have e2:decide ((12:Int)<(RE.length:Int))=false:=dF (by omega);have e2':=dF hq;have Bg:RE.length<=12:=by omega
     generalize RE.length=n at*;clear S1 qK iH eS eU Bz hq;go_wp2_with fail
     generalize (wr.setCell _ _).setCell _ _=wz at*;exact bodyPost_ret (v:=.tuple #[.agg #[.slice (some ⟨g,0,none⟩) D cp,.slice p2 n q2],.int .i64 0]) (by simp[results,results47,go_sem,gd,gw]) rfl hfin
   |false =>
    have hE:RE=(rp k).1++[f]:=by rw[tS.out,ab (by rw[hdn];decide)]
    have oe:=qL.out k;generalize (rp k).1=L at*;have bS:=S1.c1;have bX:=S1.f1;have hbC:=S1.hb;have ic:=S1.hC;obtain⟨p2,q2,rfl,_⟩:=Zq S1.o2
    have HE:Hid (aw RE=aw L++[.string g0,.int .i64 g1,.int .i64 g2,.int .i64 g3,.string g4]/\RE.length=L.length+1):=⟨by rw[hE,ZE,wu.out],by rw[hE,List.length_append];rfl⟩
    clear hdn tS hE qa qL HR0 cy tT wu;go_wp2_with fail
    go_region_law (first
     |(refine gF _ rfl _ _ 33 rfl w3.heap.size 73 j0 (.agg #[.string ⟨#[]⟩,.int .i64 0,.int .i64 0,.int .i64 0,.string ⟨#[]⟩]) 5 56 eX gi ej dX ek rfl (by decide) _ _ _ rfl (S2.o2.alloc _) ⟨w8.heap.size,0,none⟩ 1 1 [.string g0,.int .i64 g1,.int .i64 g2,.int .i64 g3,.string g4] rfl rfl (jT _ _ _ _ _ _ _) (cZ _ _ _ _ _) (by decide) (by unfold maxLen;omega) (by omega) (by simp;omega) _ rfl ?_;intro g7 ch w7 ay a7 aU bM;obtain⟨⟨q1,q2⟩,S4⟩:=S2.br a7 ay aU;clear a7 ay aU bM)
     |(go_simp;go_at_call 85;refine(C4.out _ B2.drew).mono ?_;rintro e w8 ⟨rfl,G8⟩;have S2:=S1.below (Below.trans ((bR _ _).drew) G8);have jy:=S2.c1;have jz:=S2.hb;have oi:∀o,(w8.alloc o).cell? ⟨C,1,none⟩=some (.slice p2 L.length q2):=(λo=>(gW _ _ _ jz).trans jy)))
    all_goals
     have F4:=F1.keep S4.bel hz;rw[<-HE.out.1,<-HE.out.2]at S4;rw[<-HE.out.2]at F4;clear a0 a1 r0 r1 z0 z1 F2 hz2 bS bX hbC ic S1 S2 jy jz oi G8 q1 q2;rw[<-HE.out.2];generalize w7.setCell _ _=wS at*;obtain⟨B4,a0,a1,r0,r1,z0,z1,hz2⟩:=id F4;have iU:=S4.ne;have Be:=S4.c0;have Bf:=S4.c1;have hC2:=S4.hb;by_cases hq:12<RE.length
     ·have hfin:=qK.out hq _ F4.b;have e2:decide ((12:Int)<(RE.length:Int))=true:=al (by omega);have e2':=al hq;generalize RE.length=n at*;clear S4 qK iH;go_wp2_with fail
      rw[F4.zero];exact bodyPost_ret (v:=.tuple #[.agg #[.slice none 0 0,.slice none 0 0],.int .i64 2]) (by simp[results,results47,go_sem,F4.r0,F4.r1]) rfl hfin
     ·obtain⟨Bz,eS,eU,gd,gw⟩:=lP F4.b S4.o1 S4.o2 hz F4.r0 F4.r1;have hfin:=iH.out hq _ _ _ eS eU iU Bz;have e2:decide ((12:Int)<(RE.length:Int))=false:=dF (by omega);have e2':=dF hq;have Bg:RE.length<=12:=by omega
      generalize RE.length=n at*;clear S4 qK iH eS eU Bz hq;go_wp2_with fail
      generalize (wS.setCell _ _).setCell _ _=wz at*;exact bodyPost_ret (v:=.tuple #[.agg #[.slice (some ⟨g,0,none⟩) D cp,.slice (some ⟨g7,0,none⟩) n ch],.int .i64 0]) (by simp[results,results47,go_sem,gd,gw]) rfl hfin
theorem Tq(ad af:Option Addr)(cd cf:Nat)(a:Ar.A)(name text:ByteArray)(dict:Int)(w:World)(h:bo w ad af a)(hs:ao a)(hn:name.size<=140737488355328) :
 Calls prog 47 #[av ad cd af cf a,.string name,.string text,.int .i64 dict] w λe w'=>ah w (bW a name text dict) (aO a name text dict) e w':=by
 have bad:∀E:Int,E≠0->aO a name text dict=E->bW a name text dict=VC:=λE h1 h2=>by unfold bW;rw[h2,ab h1]
 by_cases hc:Vz a=0
 ·cases hm:bI name with
  |false =>
   have e:aO a name text dict=4:=by unfold aO;rw[ab (λh9=>h9 hc),ax hm]
   rw[bad 4 (by decide) e,e];exact Th ad af cd cf a name text dict w h hs hn hc hm
  |true =>
   cases hd:VY a.aa dict with
   |false =>
    have e:aO a name text dict=3:=by unfold aO;rw[ab (λh9=>h9 hc),ab (by rw[hm];decide),ax hd]
    rw[bad 3 (by decide) e,e];exact Ti ad af cd cf a name text dict w h hs hn hc hm hd
   |true =>
    by_cases hl:512<text.size
    ·have e:aO a name text dict=2:=by unfold aO;rw[ab (λh9=>h9 hc),ab (by rw[hm];decide),ab (by rw[hd];decide),ax (.inl hl)]
     rw[bad 2 (by decide) e,e];exact Tj ad af cd cf a name text dict w h hs hn hc hm hd hl
    ·obtain⟨m1,m2,m3⟩:=Zj.1 (VV.1 hc).1;have Ts:=Nw (Xk hc) (VN a.aa name text dict);have hlen:=ES a.files (VN a.aa name text dict);have hnm:(VN a.aa name text dict).name=name:=rfl;rw[hnm]at hlen;refine Tl ad af cd cf a name text dict w h hs hn hc hm hd (by omega) _ _ ?_;rw[Ts]
     cases ht:ZI a.files name with
     |true =>
      rw[ht,ax rfl]at hlen
      have e:aO a name text dict=0:=by
       unfold aO;rw[ab (λh9=>h9 hc),ab (by rw[hm];decide),ab (by rw[hd];decide),ab (by rw[ht];rintro(h9|⟨h9,_⟩);exact hl h9;cases h9)]
      rw[ab (by omega),aa3 e,e]
     |false =>
      rw[ht,ab (by decide)]at hlen;by_cases h12:a.files.length=12
      ·have e:aO a name text dict=2:=by
        unfold aO;rw[ab (λh9=>h9 hc),ab (by rw[hm];decide),ab (by rw[hd];decide),ax (.inr ⟨ht,h12⟩)]
       rw[ax (by omega),bad 2 (by decide) e,e]
      ·have e:aO a name text dict=0:=by
        unfold aO;rw[ab (λh9=>h9 hc),ab (by rw[hm];decide),ab (by rw[hd];decide),ab (by rintro(h9|⟨_,h9⟩);exact hl h9;exact h12 h9)]
       rw[ab (by omega),aa3 e,e]
 ·have e:aO a name text dict=Vz a:=by unfold aO;rw[ax hc]
  rw[bad _ hc e,e];exact Tg ad af cd cf a name text dict w h hs hc
namespace Ar
theorem Io(fs:List F)(name:ByteArray):∀k,(Xj fs name k).length<=k
 |0=>by simp[Xj]
 |k+1=>by
  have ih:=Io fs name k;rw[Xj];split
  ·omega
  ·simp only[List.length_append,List.length_cons,List.length_nil];omega
end Ar
theorem Tt(ad af:Option Addr)(cd cf:Nat)(a:Ar.A)(name:ByteArray)(w:World)(h:bo w ad af a)(hs:ao a)(hc:Vz a≠0) :
 Calls prog 48 #[av ad cd af cf a,.string name] w λe w'=>ah w VC (Vz a) e w':=by
 have C1:=Za λw' (h9:ae w w')=>Zn ad af cd cf a w' (h.below h9) hs
 have hQ:Hid (∀w',ae w w'->ah w VC (Vz a) (.returned (.tuple #[.agg #[.slice none 0 0,.slice none 0 0],.int .i64 (Vz a)])) w'):=λw' h9=>ZC h9
 generalize ah w VC (Vz a)=Q at*;unfold av at C1 |-
 generalize Vz a=E at*;have e1:(E != 0)=true:=by simpa using hc
 have e2:(E==0)=false:=by simpa using hc
 generalize a.aa.length=D at*;generalize a.files.length=N at*;clear h hs hc;go_enter func48,ntmps48
 go_wp2_with fail
 refine mo (C1.out _ (Fr.start w _ _).b) λw1 G1=>?_
 have F1:=(Fr.start w _ _).next G1;clear G1;obtain⟨b,a0,a1,r0,r1,z0,z1,hz⟩:=id F1;go_wp2_with fail
 rw[F1.zero];exact bodyPost_ret (v:=.tuple #[.agg #[.slice none 0 0,.slice none 0 0],.int .i64 E]) (by simp[results,results48,go_sem,F1.r0,F1.r1]) rfl (hQ.out _ F1.b)
theorem Tu(ad af:Option Addr)(cd cf:Nat)(a:Ar.A)(name:ByteArray)(w:World)(h:bo w ad af a)(hs:ao a)(hc:Vz a=0)(ht:ZI a.files name=false) :
 Calls prog 48 #[av ad cd af cf a,.string name] w λe w'=>ah w VC 5 e w':=by
 obtain⟨m1,m2,m3⟩:=Zj.1 (VV.1 hc).1;have C1:=Za λw' (h9:ae w w')=>Zn ad af cd cf a w' (h.below h9) hs
 have C2:Hid (∀w',ae w w'->CB 86 #[av ad cd af cf a,.string name] w' (.int .i64 (match Xz a.files name a.files.length with|none=>-1|some i=>(i:Int)))):=λw' h9=>Ao ad af cd cf a name w' (h.fs.below h9) m2
 rw[zi (Xk hc) name,ht,ab (by decide)]at C2;simp only at C2;rw[hc]at C1;have hQ:Hid (∀w',ae w w'->ah w VC 5 (.returned (.tuple #[.agg #[.slice none 0 0,.slice none 0 0],.int .i64 5])) w'):=λw' h9=>ZC h9
 generalize ah w VC 5=Q at*;unfold av at C1 C2 |-
 generalize a.aa.length=D at*;generalize a.files.length=N at*;clear h hs hc ht m3;go_enter func48,ntmps48
 go_wp2_with fail
 refine mo (C1.out _ (Fr.start w _ _).b) λw1 G1=>?_
 have F1:=(Fr.start w _ _).next G1;clear G1;obtain⟨b,a0,a1,r0,r1,z0,z1,hz⟩:=id F1;go_wp2_with fail
 refine mo (C2.out _ F1.b) λw2 G=>?_
 have F2:=F1.next G;clear b a0 a1 r0 r1 z0 z1 hz;obtain⟨b,a0,a1,r0,r1,z0,z1,hz⟩:=id F2;go_wp2_with fail
 rw[F2.zero];exact bodyPost_ret (v:=.tuple #[.agg #[.slice none 0 0,.slice none 0 0],.int .i64 5]) (by simp[results,results48,go_sem,F2.r0,F2.r1]) rfl (hQ.out _ F2.b)
theorem Tv(ad af:Option Addr)(cd cf:Nat)(a:Ar.A)(name:ByteArray)(w:World)(h:bo w ad af a)(hs:ao a)(hc:Vz a=0)(ht:ZI a.files name=true) :
 Calls prog 48 #[av ad cd af cf a,.string name] w λe w'=>ah w ⟨a.aa,Xj a.files name a.files.length⟩ 0 e w':=by
 obtain⟨i0,hi,hz0,hz1,hz2⟩:=info_parts (P:=prog) (e:=9) (z:=.string ⟨#[]⟩) (size:=1) (bytes:=16) (by kernel_rfl);obtain⟨j0,gi,ej,dX,ek⟩:=info_parts (P:=prog) (e:=73) (z:=.agg #[.string ⟨#[]⟩,.int .i64 0,.int .i64 0,.int .i64 0,.string ⟨#[]⟩]) (size:=5) (bytes:=56) (by kernel_rfl);obtain⟨m1,m2,m3⟩:=Zj.1 (VV.1 hc).1;have C1:=Za λw' (h9:ae w w')=>Zn ad af cd cf a w' (h.below h9) hs
 have C2:Hid (∀w',ae w w'->CB 86 #[av ad cd af cf a,.string name] w' (.int .i64 (match Xz a.files name a.files.length with|none=>-1|some i=>(i:Int)))):=λw' h9=>Ao ad af cd cf a name w' (h.fs.below h9) m2
 have hp:=(ZH ht).1;rw[zi (Xk hc) name,ht,ax rfl]at C2;simp only at C2;rw[hc]at C1;have HDn:=Za λw' (h9:ae w w')=>(h.ds.below h9).news
 have cy:Hid (∀k,k<a.files.length->∃b off,af=some ⟨b,off,none⟩/\b<w.heap.size/\Hid (∀w',ae w w'->w'.cell? ⟨b,off+k*5,none⟩=some (.string (Nm a.files k).name)/\w'.cell? ⟨b,off+k*5+1,none⟩=some (.int .i64 (Nm a.files k).dict)/\w'.cell? ⟨b,off+k*5+2,none⟩=some (.int .i64 (Nm a.files k).size)/\w'.cell? ⟨b,off+k*5+3,none⟩=some (.int .i64 (Nm a.files k).sum)/\w'.cell? ⟨b,off+k*5+4,none⟩=some (.string (Nm a.files k).blk))):=λk hk=>by
  obtain⟨b,off,h1,h2,h3⟩:=h.fs.at hk;refine⟨b,off,h1,h2,λw' h9=>?_⟩;obtain⟨k0,k1,k2,k3,k4⟩:=h3.below h9 h2;exact⟨k0,k1,k2,k3,k4⟩
 have it:Hid ((a.aa.map Value.string).length=a.aa.length*1):=by show _=_;simp
 have HD1:Hid (∀u∈a.aa.map Value.string,u.oneCell'=true):=λu hu=>by obtain⟨x,_,rfl⟩:=List.mem_map.1 hu;rfl
 have iH:Hid (∀v1 v2 w',w'.ownsRow w.heap.size 9 1 v1 a.aa.length (a.aa.map Value.string)->w'.ownsRow w.heap.size 73 5 v2 (Xj a.files name a.files.length).length (aw (Xj a.files name a.files.length))->(∀j,v1.ownBlock=some j->v2.ownBlock≠some j)->ae w w'->ah w ⟨a.aa,Xj a.files name a.files.length⟩ 0 (.returned (.tuple #[.agg #[v1,v2],.int .i64 0])) w'):=λv1 v2 w' k1 k2 k3 k4=>⟨v1,v2,rfl,⟨k1,k2,k3⟩,k4⟩
 generalize ah w ⟨a.aa,Xj a.files name a.files.length⟩ 0=Q at*
 have qa:Hid (∀k,((Nm a.files k).name=name->Xj a.files name (k+1)=Xj a.files name k)/\((Nm a.files k).name≠name->Xj a.files name (k+1)=Xj a.files name k++[Nm a.files k])):=λk=>⟨λh9=>by rw[Xj,ax h9],λh9=>by rw[Xj,ab h9]⟩
 have qL:=Za (Io a.files name);have HR0:Hid (Xj a.files name 0=[]):=rfl;generalize Xj a.files name=rp at*;generalize VG a.files name=ps at*;have tT:Hid (∀k,aw [Nm a.files k]=[.string (Nm a.files k).name,.int .i64 (Nm a.files k).dict,.int .i64 (Nm a.files k).size,.int .i64 (Nm a.files k).sum,.string (Nm a.files k).blk]):=λk=>rfl
 unfold av at C1 C2 |-
 clear h hs hc ht m3
 obtain⟨D,hDD⟩:∃D,a.aa.length=D:=⟨_,rfl⟩
 obtain⟨N,hNN⟩:∃N,a.files.length=N:=⟨_,rfl⟩
 simp only[hDD,hNN]at C1 C2 HDn cy it iH m1 m2 hp |-
 clear hDD hNN;generalize a.aa.map Value.string=ds at*;generalize Nm a.files=fa at*;have hDi:(D:Int)<=4:=by omega
 have hNi:(N:Int)<=12:=by omega
 have Vv:decide ((ps:Int)<0)=false:=dF (by omega);go_enter func48,ntmps48
 go_wp2_with fail
 refine mo (C1.out _ (Fr.start w _ _).b) λw1 G1=>?_
 have F1:=(Fr.start w _ _).next G1;clear G1;obtain⟨b,a0,a1,r0,r1,z0,z1,hz⟩:=id F1;go_wp2_with fail
 refine mo (C2.out _ F1.b) λw3 G=>?_
 have F3:=F1.next G;clear b a0 a1 r0 r1 z0 z1 hz F1 G C1 C2;obtain⟨b,a0,a1,r0,r1,z0,z1,hz⟩:=id F3;have j5:w.heap.size<w3.heap.size:=by omega
 have O0:=vW w3 w3.heap.size 9 1 (nl _);have hD2:=HDn.out _ (F3.b.alloc (by have:=F3.b.size;omega) (.cells #[] 9 (0,0)));have fV:=it.out;have fW:=HD1.out
 go_wp2_with (first
  |(at_builtin;refine vV rfl _ _ 32 rfl w3.heap.size 9 i0 (.string ⟨#[]⟩) 1 16 je hi hz0 hz1 hz2 rfl (by decide) w3.heap.size 0 0 [] rfl O0 ad D cd ds rfl fV hD2 fW (by unfold maxLen;omega) (by omega) (by simp) _ rfl ?_;intro g cp w5 hown5 aB bc)
  |fail)
 have BX:=((bR _ _).alloc (nl _) _).grown aB (by simp) (λj hj=>by simp at hj;omega);simp only[Nat.zero_add,List.nil_append]at hown5 |-
 have S0:=cx.new1 BX BX.size hown5;clear O0 hD2 fV fW aB bc hown5 HDn it HD1 BX a0 a1 r0 r1 z0 z1 b;generalize (w5.alloc (.cells #[.slice (some ⟨g,0,none⟩) D cp,.slice none 0 0] 35 (0,0)))=w6 at*;generalize w5.heap.size=C at*;go_loopw [8] (λi wr=>∃(k:Nat) (v2:Value),k<=N/\i=.int .i64 k/\cx w3 wr C w3.heap.size (.slice (some ⟨g,0,none⟩) D cp) v2 D (rp k).length ds (aw (rp k))) (λi _=>N-(intOf i).toNat)
 case atStart=>exact⟨0,_,by omega,rfl,by rw[HR0.out];exact S0⟩
 case round =>
  obtain⟨k,v2,hk2,rfl,S1⟩:=hrel;have F2:=F3.keep S1.bel hz;obtain⟨B2,a0,a1,r0,r1,z0,z1,hz2⟩:=id F2;by_cases hlt:k<N
  ·have e1:decide ((k:Int)<(N:Int))=true:=al (by omega);have e1':=al hlt;have hki:(k:Int)<(N:Int):=by omega
   obtain⟨b,off,rfl,hbw,oh⟩:=cy.out k hlt;obtain⟨c0,c1,c2,c3,c4⟩:=oh.out wr B2;have hbl:=nT hbw B2.size;have HRk:=qa.out k;have HFk:=tT.out k;have oe:=qL.out k;have hbe:=nN (fa k).name name;by_cases hnm:(fa k).name=name
   ·rw[decide_eq_true hnm]at hbe;have HN:=Za (HRk.1 hnm);clear HRk;generalize (fa k).name=f0 at*;subst hnm;go_wp2_with fail
    go_roundw
    case rel=>exact⟨k+1,_,by omega,by go_num,by rw[HN.out];exact S1⟩
    case measure=>simp[intOf];omega
   ·rw[decide_eq_false hnm]at hbe;have HN:=Za (HRk.2 hnm);clear HRk hnm;generalize rp k=L at*;have bS:=S1.c1;have bX:=S1.f1;have hbC:=S1.hb;have ic:=S1.hC;obtain⟨p2,q2,rfl,_⟩:=Zq S1.o2;have S9:=S1.below ((bR _ _).drew);generalize (fa k).name=f0 at*;generalize (fa k).dict=f1 at*;generalize (fa k).size=f2 at*;generalize (fa k).sum=f3 at*;generalize (fa k).blk=f4 at*;go_wp2_with fail
    go_region_law (first
     |(refine gF _ rfl _ _ 33 rfl w3.heap.size 73 j0 (.agg #[.string ⟨#[]⟩,.int .i64 0,.int .i64 0,.int .i64 0,.string ⟨#[]⟩]) 5 56 eX gi ej dX ek rfl (by decide) _ _ _ rfl (S9.o2.alloc _) ⟨wr.drew.heap.size,0,none⟩ 1 1 [.string f0,.int .i64 f1,.int .i64 f2,.int .i64 f3,.string f4] rfl rfl (jT _ _ _ _ _ _ _) (cZ _ _ _ _ _) (by decide) (by unfold maxLen;omega) (by omega) (by simp;omega) _ rfl ?_;intro g9 Bb w9 ay a7 aU bM;obtain⟨⟨q1,q2⟩,pv⟩:=S9.br a7 ay aU;clear a7 ay aU bM))
    all_goals
     go_wp2_with fail
     go_roundw
     case rel=>exact⟨k+1,_,by omega,by go_num,by rw[HN.out];simp only[List.length_append,List.length_cons,List.length_nil,ZE,HFk];exact pv⟩
     case measure=>simp[intOf];omega
  ·obtain rfl:k=N:=by omega
   have e1:decide ((k:Int)<(k:Int))=false:=by simp
   have iU:=S1.ne;have Be:=S1.c0;have Bf:=S1.c1;have hC2:=S1.hb;obtain⟨Bz,eS,eU,gd,gw⟩:=lP F2.b S1.o1 S1.o2 hz F2.r0 F2.r1;have hfin:=iH.out _ _ _ eS eU iU Bz;obtain⟨p2,q2,rfl,_⟩:=Zq S1.o2;generalize rp k=RE at*;generalize RE.length=n at*;clear S1 iH eS eU Bz;go_wp2_with fail
   generalize (wr.setCell _ _).setCell _ _=wz at*;exact bodyPost_ret (v:=.tuple #[.agg #[.slice (some ⟨g,0,none⟩) D cp,.slice p2 n q2],.int .i64 0]) (by simp[results,results48,go_sem,gd,gw]) rfl hfin
theorem Tw(ad af:Option Addr)(cd cf:Nat)(a:Ar.A)(name:ByteArray)(w:World)(h:bo w ad af a)(hs:ao a) :
 Calls prog 48 #[av ad cd af cf a,.string name] w λe w'=>ah w (Wf a name) (VE a name) e w':=by
 by_cases hc:Vz a=0
 ·cases ht:ZI a.files name with
  |false =>
   have e:VE a name=5:=by unfold VE;rw[ab (λh9=>h9 hc),ab (by rw[ht];decide)]
   have e2:Wf a name=VC:=by unfold Wf;rw[e,ab (by decide)]
   rw[e,e2];exact Tu ad af cd cf a name w h hs hc ht
  |true =>
   have e:VE a name=0:=by unfold VE;rw[ab (λh9=>h9 hc),ax ht]
   rw[EU e,e,<-Ar.Nx (Xk hc) ht];exact Tv ad af cd cf a name w h hs hc ht
 ·have e:VE a name=Vz a:=by unfold VE;rw[ax hc]
  have e2:Wf a name=VC:=by unfold Wf;rw[e,ab hc]
  rw[e,e2];exact Tt ad af cd cf a name w h hs hc
theorem Tx(ad af:Option Addr)(cd cf:Nat)(a:Ar.A)(size:Int)(w:World)(h:bo w ad af a)(hs:ao a)(hc:Vz a≠0) :
 Calls prog 49 #[av ad cd af cf a,.int .i64 size] w λe w'=>ah w VC (Vz a) e w':=by
 have C1:=Za λw' (h9:ae w w')=>Zn ad af cd cf a w' (h.below h9) hs
 have hQ:Hid (∀w',ae w w'->ah w VC (Vz a) (.returned (.tuple #[.agg #[.slice none 0 0,.slice none 0 0],.int .i64 (Vz a)])) w'):=λw' h9=>ZC h9
 generalize ah w VC (Vz a)=Q at*;generalize Vz a=E at*;have e1:(E != 0)=true:=by simpa using hc
 have e2:(E==0)=false:=by simpa using hc
 clear hc;unfold av at C1 |-
 generalize a.aa.length=D at*;generalize a.files.length=N at*;clear h hs;go_enter func49,ntmps49
 go_wp2_with fail
 refine mo (C1.out _ (Fr.start w _ _).b) λw1 G1=>?_
 have F1:=(Fr.start w _ _).next G1;clear G1;obtain⟨b,a0,a1,r0,r1,z0,z1,hz⟩:=id F1;go_wp2_with fail
 rw[F1.zero];exact bodyPost_ret (v:=.tuple #[.agg #[.slice none 0 0,.slice none 0 0],.int .i64 E]) (by simp[results,results49,go_sem,F1.r0,F1.r1]) rfl (hQ.out _ F1.b)
theorem Ty(ad af:Option Addr)(cd cf:Nat)(a:Ar.A)(size:Int)(w:World)(h:bo w ad af a)(hs:ao a)(hc:Vz a=0)(j5:¬(0<=size/\size<=256)) :
 Calls prog 49 #[av ad cd af cf a,.int .i64 size] w λe w'=>ah w VC 3 e w':=by
 have C1:=Za λw' (h9:ae w w')=>Zn ad af cd cf a w' (h.below h9) hs
 have C2:=Za λw'=>ZQ size 0 256 w'
 have hQ:Hid (∀w',ae w w'->ah w VC 3 (.returned (.tuple #[.agg #[.slice none 0 0,.slice none 0 0],.int .i64 3])) w'):=λw' h9=>ZC h9
 generalize ah w VC 3=Q at*;rw[hc]at C1;rw[decide_eq_false j5]at C2;clear hc j5;unfold av at C1 |-
 generalize a.aa.length=D at*;generalize a.files.length=N at*;clear h hs;go_enter func49,ntmps49
 go_wp2_with fail
 refine mo (C1.out _ (Fr.start w _ _).b) λw1 G1=>?_
 have F1:=(Fr.start w _ _).next G1;clear G1;obtain⟨b,a0,a1,r0,r1,z0,z1,hz⟩:=id F1;go_wp2_with fail
 refine mo (C2.out _) ?_;rintro w2 rfl;go_wp2_with fail
 rw[F1.zero];exact bodyPost_ret (v:=.tuple #[.agg #[.slice none 0 0,.slice none 0 0],.int .i64 3]) (by simp[results,results49,go_sem,F1.r0,F1.r1]) rfl (hQ.out _ F1.b)
theorem Tz(ad af:Option Addr)(cd cf:Nat)(a:Ar.A)(size:Int)(w:World)(h:bo w ad af a)(hs:ao a)(hc:Vz a=0)(j5:0<=size/\size<=256)(h4:a.aa.length=4) :
 Calls prog 49 #[av ad cd af cf a,.int .i64 size] w λe w'=>ah w VC 2 e w':=by
 have C1:=Za λw' (h9:ae w w')=>Zn ad af cd cf a w' (h.below h9) hs
 have C2:=Za λw'=>ZQ size 0 256 w'
 have hQ:Hid (∀w',ae w w'->ah w VC 2 (.returned (.tuple #[.agg #[.slice none 0 0,.slice none 0 0],.int .i64 2])) w'):=λw' h9=>ZC h9
 generalize ah w VC 2=Q at*;rw[hc]at C1;rw[decide_eq_true j5]at C2;have d4:decide ((4:Int)<=(a.aa.length:Int))=true:=al (by omega);have sr:decide (4<=a.aa.length)=true:=al (by omega);clear hc j5 h4;unfold av at C1 |-
 generalize a.aa.length=D at*;generalize a.files.length=N at*;clear h hs;go_enter func49,ntmps49
 go_wp2_with fail
 refine mo (C1.out _ (Fr.start w _ _).b) λw1 G1=>?_
 have F1:=(Fr.start w _ _).next G1;clear G1;obtain⟨b,a0,a1,r0,r1,z0,z1,hz⟩:=id F1;go_wp2_with fail
 refine mo (C2.out _) ?_;rintro w2 rfl;go_wp2_with fail
 rw[F1.zero];exact bodyPost_ret (v:=.tuple #[.agg #[.slice none 0 0,.slice none 0 0],.int .i64 2]) (by simp[results,results49,go_sem,F1.r0,F1.r1]) rfl (hQ.out _ F1.b)
open Go.Maps
namespace Tr
def Yl(t q:ByteArray):Nat->Nat
 |0=>0
 |j+1=>Yl t q j+(if Y3 t j=q then 1 else 0)
theorem Ip(t q:ByteArray):∀j,Yl t q j<=j
 |0=>nl _
 |j+1=>by have:=Ip t q j;rw[Yl];split<;>omega
theorem Iq{t q:ByteArray}(hq:q.size=4):∀{j:Nat},j<=t.size-3->(Yl t q j=0↔dM q t j=false)
 |0,_=>by simp[Yl,dM]
 |j+1,h=>by
  have ih:=Iq (t:=t) hq (j:=j) (by omega);rw[Yl,dM,Bool.or_eq_false_iff,<-ih,decide_eq_false_iff_not,hq];constructor
  ·intro h9;refine⟨by omega,?_⟩;rintro⟨_,e⟩;rw[ax (show Y3 t j=q from e)]at h9;omega
  ·rintro⟨h1,h2⟩;rw[ab (show ¬Y3 t j=q from λe=>h2 ⟨by omega,e⟩)];omega
theorem TC(t:ByteArray)(j:Nat):Yl t (Y3 t j) (j+1)=Yl t (Y3 t j) j+1:=by rw[Yl,ax rfl]
theorem TD{t q:ByteArray}{j:Nat}(h:q≠Y3 t j):Yl t q (j+1)=Yl t q j:=by rw[Yl,ab (λe=>h e.symm)];rfl
theorem VS.below{b:Nat}(h:VS w b n f)(hb:ae w w'):VS w' b n f:=by
 obtain⟨D,h1,h2⟩:=h;refine⟨D,?_,h2⟩;have hlt:=h1.lt;obtain⟨es,cl,h3,h4⟩:=h1;exact⟨es,cl,by rw[hb.block b hlt];exact h3,h4⟩
theorem VS.kept'{b:Nat}{row:Option Nat}(h:VS w b n f)(hg:w.grownBy w' row)(hne:some b≠row):VS w' b n f:=by
 obtain⟨D,h1,h2⟩:=h;exact⟨D,h1.kept hg hne,h2⟩
theorem VS.pw{D:DataW Unit}(h3:∀q:ByteArray,q.size=4->D.atKey (kl q) (Y5 0)=Y5 (f q))(p:ByteArray)(hp:p.size=4)(c:Int)(h9:D.atKey (kl p) (.lit (.int .i64 0))=.lit (.int .i64 c)):c=(f p:Int):=by
 have h8:=h9.symm.trans (h3 p hp);simpa[Y5]using h8
theorem Ir{P B:ByteArray}(h:C<ct xs P\/(ct xs P=C/\1<ct xs P/\VI P B=true))(hs:st P d=false):bs xs d (B,C) P=(P,ct xs P):=by
 rw[bs,ax];rw[hs];rcases h with h|⟨h1,h2,h3⟩
 ·simp[h]
 ·rw[h3];simp[h1];omega
theorem YD{P B:ByteArray}(h:¬(C<ct xs P\/(ct xs P=C/\1<ct xs P/\VI P B=true))\/st P d=true):bs xs d (B,C) P=(B,C):=by
 rw[bs,ab];intro h9;simp only[Bool.and_eq_true,Bool.or_eq_true,decide_eq_true_iff,Bool.not_eq_true',beq_iff_eq]at h9;rcases h with h|h
 ·apply h;rcases h9.1 with h8|h8
  ·exact .inl h8
  ·exact .inr ⟨h8.1.1,h8.1.2,h8.2⟩
 ·rw[h]at h9;cases h9.2
theorem TE(xs:List ByteArray)(d:ByteArray):(best xs d).size=0\/(best xs d).size=4:=by
 rcases cM xs d with⟨h,_⟩|⟨h,_⟩
 ·left;rw[h];rfl
 ·exact .inr h
def aa4:Value->Nat
 |.string b=>b.size
 |_=>0
theorem bL(h:0<b.size):b.toList.isEmpty=false:=by
 rw[ByteArray.toList_eq,List.isEmpty_eq_false_iff];intro e;have:=congrArg List.length e;simp at this;rw[this]at h;exact absurd h (by decide)
theorem TF(h:b.size=0):b=⟨#[]⟩:=by
 cases b with|mk d=>congr;exact Array.eq_empty_of_size_eq_zero h
end Tr
end Go.Proofs.YtbjbjbpgmojcbacGreatDoor
