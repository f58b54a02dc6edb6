/- A part of the proof: what it leans on. -/
import Derived.Test.YtbjbjbpgmojcbabGreatLsBook01
import Derived.Deep.QuietTactic
import Derived.BigQuiet
import Derived.Deep.RegionHeld3
import Derived.Deep.RegionLaw
import Derived.Test.YtbjbjbpgmojcbabGreatLsBook10
import Derived.Test.YtbjbjbpgmojcbabGreatLsBook11
import Derived.Test.YtbjbjbpgmojcbabGreatLsBook12
import Derived.Test.YtbjbjbpgmojcbabGreatLsBook13
import Derived.Test.YtbjbjbpgmojcbabGreatLsBook14
import Derived.Test.YtbjbjbpgmojcbabGreatLsBook16
import Derived.Test.YtbjbjbpgmojcbabGreatLsBook17
set_option maxRecDepth 8000
set_option maxHeartbeats 8000000
namespace Go.Proofs.YtbjbjbpgmojcbabGreat
open Go.RowKit
theorem ZfV (ad af:Option Addr) (cd cf:Nat) (a:Ar.A) (w:World) (hn1:a.dicts.length<=8796093022208) (hn2:a.files.length<=8796093022208) (hm:4<a.dicts.length\/12<a.files.length) :
 Calls Tryz.prog 19 #[av ad cd af cf a] w fun e w'=>e=.returned (.int .i64 2)/\Below w.heap.size w w':=by
 have hb:=fun o=>(bR w.heap.size w).alloc (nl _) o
 unfold av;generalize a.dicts.length=D at *;generalize a.files.length=N at *;by_cases h4:4<D
 ·have d1:decide ((4:Int)<(D:Int))=true:=by simp;omega
  have d1':decide (4<D)=true:=by simp;omega
  clear hm;go_enter Tryz.func19,Tryz.ntmps19
  go_wp2_with fail
  go_ret
  exact ⟨rfl,hb _⟩
 ·have d1:decide ((4:Int)<(D:Int))=false:=by simp;omega
  have d1':decide (4<D)=false:=by simp;omega
  have d2:decide ((12:Int)<(N:Int))=true:=by simp;omega
  have d2':decide (12<N)=true:=by simp;omega
  clear hm h4;go_enter Tryz.func19,Tryz.ntmps19
  go_wp2_with fail
  go_ret
  exact ⟨rfl,hb _⟩
theorem Zfh (ad af:Option Addr) (cd cf:Nat) (a:Ar.A) (w:World) (h:ArV w ad af a) (hs:SaneA a) (m1:a.dicts.length<=4) (m2:a.files.length<=12) :
 Calls Tryz.prog 19 #[av ad cd af cf a] w fun e w'=>e=.returned (.int .i64 (Ar.chk a))/\Below w.heap.size w w':=by
 have hb:=fun o=>(bR w.heap.size w).alloc (nl _) o
 have HX:Hid (∀ w',Below w.heap.size w w'->∀ k,k<a.dicts.length->∃ b off,ad=some ⟨b,off,none⟩/\b<w'.heap.size/\w'.cell? ⟨b,off+k,none⟩=some (.string (Tr.xa a.dicts k))):=fun w' hb k hk=>(h.ds.below hb).at hk
 have HF:Hid (∀ w',Below w.heap.size w w'->∀ k,k<a.files.length->∃ b off,af=some ⟨b,off,none⟩/\b<w'.heap.size/\FlC w' b (off+k*5) (Ar.fa a.files k)):=fun w' h9 k hk=>(h.fs.below h9).at hk
 have HL2:Hid (∀ k,k<a.dicts.length->Ar.lgK a.dicts k=none->256<(Tr.xa a.dicts k).size->Ar.chk a=2):=fun k hk hl hs=>by
  have h1:Ar.lgK a.dicts (k+1)=some k:=by rw [Ar.lgK,hl];exact if_pos hs
  have h9:=Ar.Zec h1 (a.dicts.length - (k+1));rw [show k+1+(a.dicts.length - (k+1))=a.dicts.length by omega] at h9;have:Ar.many a=true:=by unfold Ar.many;rw [h9];simp
  unfold Ar.chk;rw [if_pos this]
 have HL0:Hid (∀ k,Ar.lgK a.dicts k=none->(Tr.xa a.dicts k).size<=256->Ar.lgK a.dicts (k+1)=none):=fun k hl hs=>by rw [Ar.lgK,hl];exact if_neg (by omega)
 have HM:Hid (Ar.lgK a.dicts a.dicts.length=none->Ar.many a=false):=fun hl=>by unfold Ar.many;rw [hl,dF (by omega)];rfl
 have HB:Hid (Ar.many a=false->∀ k,k<a.files.length->Ar.okAt a k=false->Ar.chk a=1):=fun hm k hk ho=>by unfold Ar.chk;rw [hm,Ar.ZbU hk ho];rfl
 have HG:Hid (Ar.many a=false->Ar.gdK a a.files.length=true->Ar.chk a=0):=fun hm hg=>Ar.Zd.2 ⟨hm,hg⟩
 have HD:Hid (∀ (n:Int),Ar.has a.dicts n=true->∀ w',Below w.heap.size w w'->Calls Tryz.prog 63 #[av ad cd af cf a,.int .i64 n] w' fun e w2=>e=.returned (.string (Ar.dct a.dicts n))/\Below w'.heap.size w' w2):=fun n hh w' h9=>Zdp ad af cd cf a n w' (h.ds.below h9) hs.nd hh
 have HU:Hid (Ar.many a=false->∀ k w',Calls Tryz.prog 62 #[.string (Ar.dct a.dicts (Ar.fa a.files k).dict),.string (Ar.fa a.files k).blk] w' fun e w2=>ZaR (Ar.up a.dicts (Ar.fa a.files k)) w' e w2):=fun hm k w'=>ZdF _ _ w' (Ar.ZaL hm _) (hs.bk k)
 have HN:Hid (∀ k,(Ar.fa a.files k).name.size<=140737488355328):=hs.nm
 obtain ⟨c,hc⟩:∃ c,Ar.chk a=c:=⟨_,rfl⟩
 rw [hc] at HL2 HB HG;rw [hc];clear hc h hs;unfold av at HD |-
 obtain ⟨D,hD⟩:∃ D,a.dicts.length=D:=⟨_,rfl⟩
 obtain ⟨N,hN⟩:∃ N,a.files.length=N:=⟨_,rfl⟩
 simp only [hD,hN] at HX HF HL2 HM HB HG HD m1 m2 |-
 have HNN:Hid (a.files.length=N):=hN;have HDD:Hid (a.dicts.length=D):=hD;clear hN hD;have hD':(D:Int)<=4:=by omega
 have hN':(N:Int)<=12:=by omega
 have e1:decide ((4:Int)<(D:Int))=false:=by simp;omega
 have e1':decide (4<D)=false:=by simp;omega
 have e2:decide ((12:Int)<(N:Int))=false:=by simp;omega
 have e2':decide (12<N)=false:=by simp;omega
 go_enter Tryz.func19,Tryz.ntmps19
 go_wp2_with fail
 have a0:(w.alloc (.cells #[.slice ad D cd,.slice af N cf] 25 (0,0))).cell? ⟨w.heap.size,0,none⟩=some (.slice ad D cd):=World.cell?_alloc_new _ _ _ 0;have a1:(w.alloc (.cells #[.slice ad D cd,.slice af N cf] 25 (0,0))).cell? ⟨w.heap.size,1,none⟩=some (.slice af N cf):=World.cell?_alloc_new _ _ _ 1;have B1:=hb (.cells #[.slice ad D cd,.slice af N cf] 25 (0,0));have hz1:w.heap.size<(w.alloc (.cells #[.slice ad D cd,.slice af N cf] 25 (0,0))).heap.size:=by simp
 generalize (w.alloc (.cells #[.slice ad D cd,.slice af N cf] 25 (0,0)))=w1 at *;go_loopw [3] (fun i wr=>∃ k:Nat,k<=D/\i=.int .i64 k/\Hid (Ar.lgK a.dicts k=none)/\wr=w1) (fun i _=>D - (intOf i).toNat)
 case atStart=>exact ⟨0,by omega,rfl,rfl,rfl⟩
 case round =>
  obtain ⟨k,hk2,rfl,HL,hwr⟩:=hrel;have hwr:=hwr.symm;subst hwr;by_cases hlt:k<D
  ·have d1:decide ((k:Int)<(D:Int))=true:=by simp;omega
   have d1':decide (k<D)=true:=by simp;omega
   have hki:(k:Int)<(D:Int):=by omega
   obtain ⟨b,off,rfl,hbl,hcell⟩:=HX.out w1 B1 k hlt;by_cases hs:256<(Tr.xa a.dicts k).size
   ·have HR:Hid (c=2):=HL2.out k hlt HL.out hs;have d2:decide ((256:Int)<((Tr.xa a.dicts k).size:Int))=true:=zdT (by omega);have d2':decide (256<(Tr.xa a.dicts k).size)=true:=zdT (by omega);clear HL;generalize Tr.xa a.dicts k=X at *;go_wp2_with fail
    go_ret
    exact ⟨congrArg (fun x=>Ending.returned (Value.int .i64 x)) HR.out.symm,B1⟩
   ·have HN1:Hid (Ar.lgK a.dicts (k+1)=none):=HL0.out k HL.out (by omega);have d2:decide ((256:Int)<((Tr.xa a.dicts k).size:Int))=false:=dF (by omega);have d2':decide (256<(Tr.xa a.dicts k).size)=false:=dF (by omega);generalize Tr.xa a.dicts k=X at *;clear hs;go_wp2_with fail
    go_roundw
    case rel=>exact ⟨k+1,by omega,by go_num,HN1,by trivial⟩
    case measure=>simp [intOf];omega
  ·obtain rfl:k=D:=by omega
   have d1:decide ((k:Int)<(k:Int))=false:=by simp
   have HMF:Hid (Ar.many a=false):=HM.out HL.out;have HBk:Hid (∀ m,m<N->Ar.okAt a m=false->c=1):=HB.out HMF.out;have HGk:Hid (Ar.gdK a N=true->c=0):=HG.out HMF.out;have HUk:Hid (∀ m w',Calls Tryz.prog 62 #[.string (Ar.dct a.dicts (Ar.fa a.files m).dict),.string (Ar.fa a.files m).blk] w' fun e w2=>ZaR (Ar.up a.dicts (Ar.fa a.files m)) w' e w2):=HU.out HMF.out;clear HL HM HL2 HL0 HB HG HU HMF HX;go_wp2_with fail
   go_loopw [4] (fun i w2=>∃ m:Nat,m<=N/\i=.int .i64 m/\Hid (Ar.gdK a m=true)/\Below w1.heap.size w1 w2) (fun i _=>N - (intOf i).toNat)
   case atStart=>exact ⟨0,by omega,rfl,rfl,bR _ _⟩
   case round =>
    obtain ⟨m,hm2,rfl,HGm,B2⟩:=hrel;have a0':=(B2.cell (p:=⟨w.heap.size,0,none⟩) hz1).trans a0;have a1':=(B2.cell (p:=⟨w.heap.size,1,none⟩) hz1).trans a1;have B3:=bch B1 B2 (nl _);have hz2:w.heap.size<wr.heap.size:=nT hz1 B2.size;by_cases hlt:m<N
    ·have d2:decide ((m:Int)<(N:Int))=true:=by simp;omega
     have d2':decide (m<N)=true:=by simp;omega
     have hmi:(m:Int)<(N:Int):=by omega
     obtain ⟨b,off,rfl,hbl,hcell⟩:=HF.out wr B3 m hlt;obtain ⟨c0,c1,c2,c3,c4⟩:=hcell;have CN:Hid (∀ w',Calls Tryz.prog 56 #[.string (Ar.fa a.files m).name] w' fun e w3=>e=.returned (.bool (Ar.isNm (Ar.fa a.files m).name))/\w3=w'):=fun w'=>ZaD _ w' (HN.out m)
     have CW:Hid (∀ w',Calls Tryz.prog 57 #[.int .i64 (Ar.fa a.files m).dict,.int .i64 0,.int .i64 (k:Nat)] w' fun e w3=>e=.returned (.bool (Ar.has a.dicts (Ar.fa a.files m).dict))/\w3=w'):=fun w'=>by
      have:=ZJ (Ar.fa a.files m).dict 0 (k:Nat) w';unfold Ar.has;rw [HDD.out];exact this
     have HP:Hid (∀ x y z,Ar.isNm (Ar.fa a.files m).name=x->(decide (m=0) || Tr.bl (Ar.fa a.files (m - 1)).name (Ar.fa a.files m).name)=y->Ar.okf a.dicts (Ar.fa a.files m)=z->Ar.okAt a m=(x && y && z)):=fun x y z h1 h2 h3=>by unfold Ar.okAt;rw [h1,h2,h3]
     have HC1:Hid (Ar.okAt a m=false->c=1):=HBk.out m hlt
     have HQ:Hid (c=1->∀ w',Below w.heap.size w w'->(Ending.returned (.int .i64 1)=Ending.returned (.int .i64 c))/\Below w.heap.size w w'):=fun h1 w' h2=>⟨by rw [h1],h2⟩
     have BF:Hid (∀ o n,Below w.heap.size w ((wr.alloc o).drewN n)):=fun o n=>below_drewN (B3.alloc B3.size o) n
     cases hnm:Ar.isNm (Ar.fa a.files m).name with
     | false =>
      have hg:Hid (c=1):=HC1.out (by rw [HP.out false _ _ hnm rfl rfl];rfl);rw [hnm] at CN;clear hnm HP HC1 CW;generalize (Ar.fa a.files m).name=f0 at *;generalize (Ar.fa a.files m).dict=f1 at *;generalize (Ar.fa a.files m).size=f2 at *;generalize (Ar.fa a.files m).sum=f3 at *;generalize (Ar.fa a.files m).blk=f4 at *;go_wp2_with fail
      go_quiet ((go_at_call 56;exact Calls.quiet_of_same (CN.out _)))
      all_goals
       go_wp2_with fail
       go_ret
       exact HQ.out hg.out _ (BF.out _ _)
     | true =>
      rw [hnm] at CN;by_cases hm0:m=0
      ·have d3:decide ((0:Int)<(m:Int))=false:=by simp;omega
       have d3':decide (0<m)=false:=by simp;omega
       have hord:(decide (m=0) || Tr.bl (Ar.fa a.files (m - 1)).name (Ar.fa a.files m).name)=true:=by rw [zdT hm0];rfl
       clear hm0
       cases hhas:Ar.has a.dicts (Ar.fa a.files m).dict with
       | false =>
        have hg:Hid (c=1):=HC1.out (by rw [HP.out true true false hnm hord (by unfold Ar.okf;rw [hhas];rfl)];rfl);rw [hhas] at CW;clear hnm HP HC1 hhas hord;generalize (Ar.fa a.files m).name=f0 at *;generalize (Ar.fa a.files m).dict=f1 at *;generalize (Ar.fa a.files m).size=f2 at *;generalize (Ar.fa a.files m).sum=f3 at *;generalize (Ar.fa a.files m).blk=f4 at *;go_wp2_with fail
        go_quiet (first | (go_at_call 56;exact Calls.quiet_of_same (CN.out _)) | (go_at_call 57;exact Calls.quiet_of_same (CW.out _)))
        all_goals
         go_wp2_with fail
         go_ret
         exact HQ.out hg.out _ (BF.out _ _)
       | true =>
        have CD:Hid (∀ w',Below w.heap.size w w'->Calls Tryz.prog 63 #[.agg #[.slice ad k cd,.slice (some ⟨b,off,none⟩) N cf],.int .i64 (Ar.fa a.files m).dict] w' fun e w3=>e=.returned (.string (Ar.dct a.dicts (Ar.fa a.files m).dict))/\Below w'.heap.size w' w3):=HD.out _ hhas;have CU:Hid (∀ w',Calls Tryz.prog 62 #[.string (Ar.dct a.dicts (Ar.fa a.files m).dict),.string (Ar.fa a.files m).blk] w' fun e w3=>ZaR (Ar.up a.dicts (Ar.fa a.files m)) w' e w3):=HUk.out m;have HO:Hid (∀ z,Ar.okf a.dicts (Ar.fa a.files m)=z->Ar.okAt a m=z):=fun z h9=>by rw [HP.out true true z hnm hord h9];rfl
        have HE:Hid (Ar.okf a.dicts (Ar.fa a.files m)=decide ((Ar.up a.dicts (Ar.fa a.files m)).2=0/\((Ar.up a.dicts (Ar.fa a.files m)).1.size:Int)=(Ar.fa a.files m).size/\Ar.sm (Ar.up a.dicts (Ar.fa a.files m)).1=(Ar.fa a.files m).sum)):=by show _=_;unfold Ar.okf;rw [hhas,Bool.true_and]
        have HZ:Hid ((Ar.up a.dicts (Ar.fa a.files m)).2=0->(Ar.up a.dicts (Ar.fa a.files m)).1.size<=512):=fun h9=>Bk.unp_size h9
        rw [hhas] at CW;have HGn:Hid (Ar.okAt a m=true->Ar.gdK a (m+1)=true):=fun h9=>by rw [Ar.gdK,HGm.out,h9];rfl
        clear hnm HP hhas hord;unfold ZaR at CU
        obtain ⟨U,hU⟩:∃ U,Ar.up a.dicts (Ar.fa a.files m)=U:=⟨_,rfl⟩
        simp only [hU] at CU HE HZ;obtain ⟨T,E⟩:=U;simp only at CU HE HZ;clear hU;generalize Ar.okf a.dicts (Ar.fa a.files m)=ok at *;generalize Ar.dct a.dicts (Ar.fa a.files m).dict=X at *;generalize (Ar.fa a.files m).name=f0 at *;generalize (Ar.fa a.files m).dict=f1 at *;generalize (Ar.fa a.files m).size=f2 at *;generalize (Ar.fa a.files m).sum=f3 at *;generalize (Ar.fa a.files m).blk=f4 at *;go_wp2_with fail
        go_quiet (first | (go_at_call 56;exact Calls.quiet_of_same (CN.out _)) | (go_at_call 57;exact Calls.quiet_of_same (CW.out _)))
        all_goals
         have hFs:wr.heap.size<(wr.alloc (.cells #[.string f0,.int .i64 f1,.int .i64 f2,.int .i64 f3,.string f4] 46 (0,0))).heap.size:=by simp
         have BA:Below wr.heap.size wr (wr.alloc (.cells #[.string f0,.int .i64 f1,.int .i64 f2,.int .i64 f3,.string f4] 46 (0,0))):=(bR _ _).alloc (nl _) _;have B9:=below_drewN (bR (wr.alloc (.cells #[.string f0,.int .i64 f1,.int .i64 f2,.int .i64 f3,.string f4] 46 (0,0))).heap.size (wr.alloc (.cells #[.string f0,.int .i64 f1,.int .i64 f2,.int .i64 f3,.string f4] 46 (0,0)))) nq;have hF:=fun i=>(B9.cell (p:=⟨wr.heap.size,i,none⟩) hFs).trans (cN wr #[.string f0,.int .i64 f1,.int .i64 f2,.int .i64 f3,.string f4] 46 i)
         have hFz:wr.heap.size<((wr.alloc (.cells #[.string f0,.int .i64 f1,.int .i64 f2,.int .i64 f3,.string f4] 46 (0,0))).drewN nq).heap.size:=nT hFs B9.size;have BA9:=bch BA B9 (nl _);clear BA B9 hFs;generalize (wr.alloc (.cells #[.string f0,.int .i64 f1,.int .i64 f2,.int .i64 f3,.string f4] 46 (0,0))).drewN nq=wF at *;have q0:=(BA9.cell (p:=⟨w.heap.size,0,none⟩) hz2).trans a0';have q1:=(BA9.cell (p:=⟨w.heap.size,1,none⟩) hz2).trans a1';have hzF:w.heap.size<wF.heap.size:=nT hz2 BA9.size;have k1:wF.cell? ⟨wr.heap.size,1,none⟩=some (.int .i64 f1):=hF 1;have k2:wF.cell? ⟨wr.heap.size,2,none⟩=some (.int .i64 f2):=hF 2;have k3:wF.cell? ⟨wr.heap.size,3,none⟩=some (.int .i64 f3):=hF 3;have k4:wF.cell? ⟨wr.heap.size,4,none⟩=some (.string f4):=hF 4;have B10:=bch B3 BA9 (nl _);have B11:=bch B2 BA9 (nl _)
         have HS:Hid (∀ w',Below wF.heap.size wF w'->Below wF.heap.size wF w'/\w'.cell? ⟨w.heap.size,0,none⟩=some (.slice ad k cd)/\w'.cell? ⟨w.heap.size,1,none⟩=some (.slice (some ⟨b,off,none⟩) N cf)/\w'.cell? ⟨wr.heap.size,1,none⟩=some (.int .i64 f1)/\w'.cell? ⟨wr.heap.size,4,none⟩=some (.string f4)):=fun w' h9 =>
          ⟨h9,(h9.cell (p:=⟨w.heap.size,0,none⟩) hzF).trans q0,(h9.cell (p:=⟨w.heap.size,1,none⟩) hzF).trans q1,(h9.cell (p:=⟨wr.heap.size,1,none⟩) hFz).trans k1,(h9.cell (p:=⟨wr.heap.size,4,none⟩) hFz).trans k4⟩
         have CD':Hid (∀ w',Below wF.heap.size wF w'->Calls Tryz.prog 63 #[.agg #[.slice ad k cd,.slice (some ⟨b,off,none⟩) N cf],.int .i64 f1] w' fun e w3=>e=.returned (.string X)/\Below w'.heap.size w' w3):=fun w' h9=>CD.out w' (bch B10 h9 (nl _))
         clear hF a0 a1 a0' a1' q0 q1 c0 c1 c2 c3 c4 CD CN CW BF HF HD HUk
         obtain ⟨Fb,hFb⟩:∃ Fb,wr.heap.size=Fb:=⟨_,rfl⟩
         rw [hFb] at HS k1 k2 k3 k4 hFz |-
         clear hFb;by_cases hE:E=0
         ·have CU':Hid (∀ w',Calls Tryz.prog 62 #[.string X,.string f4] w' fun e w2=>e=.returned (.tuple #[.string T,.bool true])/\Below w'.heap.size w' w2):=fun w'=>(CU.out w').mono (by
           rintro e w2 ⟨x,rfl,h1,_,G⟩
           exact ⟨by rw [h1 hE,zdT hE],G⟩)
          have hT:=HZ.out hE;have hT':(T.size:Int)<=512:=by omega
          have C6:Hid (∀ w',Calls Tryz.prog 64 #[.string T] w' fun e w2=>e=.returned (.int .i64 (Ar.sm T))/\w2=w'):=fun w'=>Zey T w' (by omega)
          have HE':Hid (ok=decide ((T.size:Int)=f2/\Ar.sm T=f3)):=by show _=_;rw [HE.out];simp [hE]
          clear CU HE HZ hE;generalize Ar.sm T=M at *;go_wp2_with fail
          go_region_held3 (fun w'=>Below wF.heap.size wF w'/\w'.cell? ⟨w.heap.size,0,none⟩=some (.slice ad k cd)/\w'.cell? ⟨w.heap.size,1,none⟩=some (.slice (some ⟨b,off,none⟩) N cf)/\w'.cell? ⟨Fb,1,none⟩=some (.int .i64 f1)/\w'.cell? ⟨Fb,4,none⟩=some (.string f4))
           (first | (exact HS.out _ ((bR _ _).drew)) | (exact HS.out _ (bch (And.left (by assumption)) G6 (nl _))) | (exact HS.out _ (bch (And.left (by assumption)) G5 (nl _))))
           (first
            | (go_at_call 63;refine (CD'.out _ ?_).mono ?_;exact And.left (by assumption);rintro e w5 ⟨rfl,G5⟩)
            | (go_at_call 62;refine (CU'.out _).mono ?_;rintro e w6 ⟨rfl,G6⟩))
          all_goals
           have B12:Below wF.heap.size wF w6:=bch (bch ((bR _ _).drew) G5 (nl _)) G6 (nl _);have n2:=(B12.cell (p:=⟨Fb,2,none⟩) hFz).trans k2;have n3:=(B12.cell (p:=⟨Fb,3,none⟩) hFz).trans k3;have B13:=bch B10 B12 (nl _);have B14:=bch B11 B12 (nl _)
           have B15:Hid (∀ n,Below w.heap.size w (w6.drewN n)/\Below w1.heap.size w1 (w6.drewN n)):=fun n=>⟨below_drewN B13 n,below_drewN B14 n⟩
           clear G5 G6 HS CD' CU' k1 k2 k3 k4 B10 B11 B12 B13 B14;by_cases h2:(T.size:Int)=f2
           ·by_cases h3:M=f3
            ·have hok:Hid (Ar.okAt a m=true):=HO.out true (by rw [HE'.out];exact decide_eq_true ⟨h2,h3⟩);have e3:(M == f3)=true:=by simpa using h3
             have e4:(M != f3)=false:=by simpa using h3
             have e5:((T.size:Int) == f2)=true:=by simpa using h2
             have e6:((T.size:Int) != f2)=false:=by simpa using h2
             subst h3 h2;clear HE' HO;go_wp2_with fail
             go_quiet ((go_at_call 64;exact Calls.quiet_of_same (C6.out _)))
             all_goals
              go_wp2_with fail
              go_roundw
              case rel=>exact ⟨m+1,by omega,by go_num,HGn.out hok.out,(B15.out _).2⟩
              case measure=>simp [intOf];omega
            ·have hok:Hid (c=1):=HC1.out (HO.out false (by rw [HE'.out];exact decide_eq_false (fun h=>h3 h.2)));have e3:(M == f3)=false:=by simpa using h3
             have e4:(M != f3)=true:=by simpa using h3
             have e5:decide (M=f3)=false:=dF h3;subst h2;clear HE' HO h3;go_wp2_with fail
             go_quiet ((go_at_call 64;exact Calls.quiet_of_same (C6.out _)))
             all_goals
              go_wp2_with fail
              go_ret
              exact HQ.out hok.out _ (B15.out _).1
           ·have hok:Hid (c=1):=HC1.out (HO.out false (by rw [HE'.out];exact decide_eq_false (fun h=>h2 h.1)));have e3:((T.size:Int) == f2)=false:=by simpa using h2
            have e4:((T.size:Int) != f2)=true:=by simpa using h2
            have e5:decide ((T.size:Int)=f2)=false:=dF h2;clear HE' HO h2 C6;go_wp2_with fail
            go_quiet (fail)
            all_goals
             go_wp2_with fail
             go_ret
             exact HQ.out hok.out _ (B15.out _).1
         ·have CU':Hid (∀ w',Calls Tryz.prog 62 #[.string X,.string f4] w' fun e w2=>∃ x,e=.returned (.tuple #[.string x,.bool false])/\Below w'.heap.size w' w2):=fun w'=>(CU.out w').mono (by
           rintro e w2 ⟨x,rfl,_,_,G⟩
           exact ⟨x,by rw [dF hE],G⟩)
          have hok:Hid (c=1):=HC1.out (HO.out false (by rw [HE.out];exact dF (fun h=>hE h.1)));clear CU HE HZ hE HO;go_wp2_with fail
          go_region_held3 (fun w'=>Below wF.heap.size wF w'/\w'.cell? ⟨w.heap.size,0,none⟩=some (.slice ad k cd)/\w'.cell? ⟨w.heap.size,1,none⟩=some (.slice (some ⟨b,off,none⟩) N cf)/\w'.cell? ⟨Fb,1,none⟩=some (.int .i64 f1)/\w'.cell? ⟨Fb,4,none⟩=some (.string f4))
           (first | (exact HS.out _ ((bR _ _).drew)) | (exact HS.out _ (bch (And.left (by assumption)) G6 (nl _))) | (exact HS.out _ (bch (And.left (by assumption)) G5 (nl _))))
           (first
            | (go_at_call 63;refine (CD'.out _ ?_).mono ?_;exact And.left (by assumption);rintro e w5 ⟨rfl,G5⟩)
            | (go_at_call 62;refine (CU'.out _).mono ?_;rintro e w6 ⟨x,rfl,G6⟩))
          all_goals
           have B13:=bch B10 (bch (bch ((bR _ _).drew) G5 (nl _)) G6 (nl _)) (nl _);have B15:Hid (∀ n,Below w.heap.size w (w6.drewN n)):=fun n=>below_drewN B13 n
           clear G5 G6 HS CD' CU' k1 k2 k3 k4 B10 B11 B13;go_wp2_with fail
           go_quiet (fail)
           all_goals
            go_wp2_with fail
            go_ret
            exact HQ.out hok.out _ (B15.out _)
      ·have d3:decide ((0:Int)<(m:Int))=true:=by simp;omega
       have d3':decide (0<m)=true:=by simp;omega
       have hw1:IntKind.i64.wrap ((m:Int) - 1)=(m:Int) - 1:=IntWalk.i64_in _ ⟨by omega,by omega⟩;obtain ⟨b',off',hbo,_,hprev⟩:=HF.out wr B3 (m - 1) (by omega);simp only [Option.some.injEq,Addr.mk.injEq,and_true] at hbo;obtain ⟨rfl,rfl⟩:=hbo;have p0:=hprev.c0;have p0':wr.cell? ⟨b,off+((m:Int) - 1).toNat*5,none⟩=some (.string (Ar.fa a.files (m - 1)).name):=by rw [show ((m:Int) - 1).toNat=m - 1 by omega];exact p0
       clear hprev
       cases hbl1:Tr.bl (Ar.fa a.files (m - 1)).name (Ar.fa a.files m).name with
       | false =>
        have hord:(decide (m=0) || Tr.bl (Ar.fa a.files (m - 1)).name (Ar.fa a.files m).name)=false:=by rw [dF hm0,hbl1];rfl
        have hg:Hid (c=1):=HC1.out (by rw [HP.out true false _ hnm hord rfl];rfl);clear hnm HP HC1 CW hord;unfold Tr.bl at hbl1;generalize (Ar.fa a.files (m - 1)).name=f9 at *;generalize (Ar.fa a.files m).name=f0 at *;generalize (Ar.fa a.files m).dict=f1 at *;generalize (Ar.fa a.files m).size=f2 at *;generalize (Ar.fa a.files m).sum=f3 at *;generalize (Ar.fa a.files m).blk=f4 at *;go_wp2_with fail
        go_quiet ((go_at_call 56;exact Calls.quiet_of_same (CN.out _)))
        all_goals
         go_wp2_with fail
         go_ret
         exact HQ.out hg.out _ (BF.out _ _)
       | true =>
        have hord:(decide (m=0) || Tr.bl (Ar.fa a.files (m - 1)).name (Ar.fa a.files m).name)=true:=by rw [dF hm0,hbl1];rfl
        unfold Tr.bl at hbl1;generalize (Ar.fa a.files (m - 1)).name=f9 at *
        cases hhas:Ar.has a.dicts (Ar.fa a.files m).dict with
        | false =>
         have hg:Hid (c=1):=HC1.out (by rw [HP.out true true false hnm hord (by unfold Ar.okf;rw [hhas];rfl)];rfl);rw [hhas] at CW;clear hnm HP HC1 hhas hord;generalize (Ar.fa a.files m).name=f0 at *;generalize (Ar.fa a.files m).dict=f1 at *;generalize (Ar.fa a.files m).size=f2 at *;generalize (Ar.fa a.files m).sum=f3 at *;generalize (Ar.fa a.files m).blk=f4 at *;go_wp2_with fail
         go_quiet (first | (go_at_call 56;exact Calls.quiet_of_same (CN.out _)) | (go_at_call 57;exact Calls.quiet_of_same (CW.out _)))
         all_goals
          go_wp2_with fail
          go_ret
          exact HQ.out hg.out _ (BF.out _ _)
        | true =>
         have CD:Hid (∀ w',Below w.heap.size w w'->Calls Tryz.prog 63 #[.agg #[.slice ad k cd,.slice (some ⟨b,off,none⟩) N cf],.int .i64 (Ar.fa a.files m).dict] w' fun e w3=>e=.returned (.string (Ar.dct a.dicts (Ar.fa a.files m).dict))/\Below w'.heap.size w' w3):=HD.out _ hhas;have CU:Hid (∀ w',Calls Tryz.prog 62 #[.string (Ar.dct a.dicts (Ar.fa a.files m).dict),.string (Ar.fa a.files m).blk] w' fun e w3=>ZaR (Ar.up a.dicts (Ar.fa a.files m)) w' e w3):=HUk.out m;have HO:Hid (∀ z,Ar.okf a.dicts (Ar.fa a.files m)=z->Ar.okAt a m=z):=fun z h9=>by rw [HP.out true true z hnm hord h9];rfl
         have HE:Hid (Ar.okf a.dicts (Ar.fa a.files m)=decide ((Ar.up a.dicts (Ar.fa a.files m)).2=0/\((Ar.up a.dicts (Ar.fa a.files m)).1.size:Int)=(Ar.fa a.files m).size/\Ar.sm (Ar.up a.dicts (Ar.fa a.files m)).1=(Ar.fa a.files m).sum)):=by show _=_;unfold Ar.okf;rw [hhas,Bool.true_and]
         have HZ:Hid ((Ar.up a.dicts (Ar.fa a.files m)).2=0->(Ar.up a.dicts (Ar.fa a.files m)).1.size<=512):=fun h9=>Bk.unp_size h9
         rw [hhas] at CW;have HGn:Hid (Ar.okAt a m=true->Ar.gdK a (m+1)=true):=fun h9=>by rw [Ar.gdK,HGm.out,h9];rfl
         clear hnm HP hhas hord;unfold ZaR at CU
         obtain ⟨U,hU⟩:∃ U,Ar.up a.dicts (Ar.fa a.files m)=U:=⟨_,rfl⟩
         simp only [hU] at CU HE HZ;obtain ⟨T,E⟩:=U;simp only at CU HE HZ;clear hU;generalize Ar.okf a.dicts (Ar.fa a.files m)=ok at *;generalize Ar.dct a.dicts (Ar.fa a.files m).dict=X at *;generalize (Ar.fa a.files m).name=f0 at *;generalize (Ar.fa a.files m).dict=f1 at *;generalize (Ar.fa a.files m).size=f2 at *;generalize (Ar.fa a.files m).sum=f3 at *;generalize (Ar.fa a.files m).blk=f4 at *;go_wp2_with fail
         go_quiet (first | (go_at_call 56;exact Calls.quiet_of_same (CN.out _)) | (go_at_call 57;exact Calls.quiet_of_same (CW.out _)))
         all_goals
          have hFs:wr.heap.size<(wr.alloc (.cells #[.string f0,.int .i64 f1,.int .i64 f2,.int .i64 f3,.string f4] 46 (0,0))).heap.size:=by simp
          have BA:Below wr.heap.size wr (wr.alloc (.cells #[.string f0,.int .i64 f1,.int .i64 f2,.int .i64 f3,.string f4] 46 (0,0))):=(bR _ _).alloc (nl _) _;have B9:=below_drewN (bR (wr.alloc (.cells #[.string f0,.int .i64 f1,.int .i64 f2,.int .i64 f3,.string f4] 46 (0,0))).heap.size (wr.alloc (.cells #[.string f0,.int .i64 f1,.int .i64 f2,.int .i64 f3,.string f4] 46 (0,0)))) nq;have hF:=fun i=>(B9.cell (p:=⟨wr.heap.size,i,none⟩) hFs).trans (cN wr #[.string f0,.int .i64 f1,.int .i64 f2,.int .i64 f3,.string f4] 46 i)
          have hFz:wr.heap.size<((wr.alloc (.cells #[.string f0,.int .i64 f1,.int .i64 f2,.int .i64 f3,.string f4] 46 (0,0))).drewN nq).heap.size:=nT hFs B9.size;have BA9:=bch BA B9 (nl _);clear BA B9 hFs;generalize (wr.alloc (.cells #[.string f0,.int .i64 f1,.int .i64 f2,.int .i64 f3,.string f4] 46 (0,0))).drewN nq=wF at *;have q0:=(BA9.cell (p:=⟨w.heap.size,0,none⟩) hz2).trans a0';have q1:=(BA9.cell (p:=⟨w.heap.size,1,none⟩) hz2).trans a1';have hzF:w.heap.size<wF.heap.size:=nT hz2 BA9.size;have k1:wF.cell? ⟨wr.heap.size,1,none⟩=some (.int .i64 f1):=hF 1;have k2:wF.cell? ⟨wr.heap.size,2,none⟩=some (.int .i64 f2):=hF 2;have k3:wF.cell? ⟨wr.heap.size,3,none⟩=some (.int .i64 f3):=hF 3;have k4:wF.cell? ⟨wr.heap.size,4,none⟩=some (.string f4):=hF 4;have B10:=bch B3 BA9 (nl _);have B11:=bch B2 BA9 (nl _)
          have HS:Hid (∀ w',Below wF.heap.size wF w'->Below wF.heap.size wF w'/\w'.cell? ⟨w.heap.size,0,none⟩=some (.slice ad k cd)/\w'.cell? ⟨w.heap.size,1,none⟩=some (.slice (some ⟨b,off,none⟩) N cf)/\w'.cell? ⟨wr.heap.size,1,none⟩=some (.int .i64 f1)/\w'.cell? ⟨wr.heap.size,4,none⟩=some (.string f4)):=fun w' h9 =>
           ⟨h9,(h9.cell (p:=⟨w.heap.size,0,none⟩) hzF).trans q0,(h9.cell (p:=⟨w.heap.size,1,none⟩) hzF).trans q1,(h9.cell (p:=⟨wr.heap.size,1,none⟩) hFz).trans k1,(h9.cell (p:=⟨wr.heap.size,4,none⟩) hFz).trans k4⟩
          have CD':Hid (∀ w',Below wF.heap.size wF w'->Calls Tryz.prog 63 #[.agg #[.slice ad k cd,.slice (some ⟨b,off,none⟩) N cf],.int .i64 f1] w' fun e w3=>e=.returned (.string X)/\Below w'.heap.size w' w3):=fun w' h9=>CD.out w' (bch B10 h9 (nl _))
          clear hF a0 a1 a0' a1' q0 q1 c0 c1 c2 c3 c4 CD CN CW BF HF HD HUk
          obtain ⟨Fb,hFb⟩:∃ Fb,wr.heap.size=Fb:=⟨_,rfl⟩
          rw [hFb] at HS k1 k2 k3 k4 hFz |-
          clear hFb;by_cases hE:E=0
          ·have CU':Hid (∀ w',Calls Tryz.prog 62 #[.string X,.string f4] w' fun e w2=>e=.returned (.tuple #[.string T,.bool true])/\Below w'.heap.size w' w2):=fun w'=>(CU.out w').mono (by
            rintro e w2 ⟨x,rfl,h1,_,G⟩
            exact ⟨by rw [h1 hE,zdT hE],G⟩)
           have hT:=HZ.out hE;have hT':(T.size:Int)<=512:=by omega
           have C6:Hid (∀ w',Calls Tryz.prog 64 #[.string T] w' fun e w2=>e=.returned (.int .i64 (Ar.sm T))/\w2=w'):=fun w'=>Zey T w' (by omega)
           have HE':Hid (ok=decide ((T.size:Int)=f2/\Ar.sm T=f3)):=by show _=_;rw [HE.out];simp [hE]
           clear CU HE HZ hE;generalize Ar.sm T=M at *;go_wp2_with fail
           go_region_held3 (fun w'=>Below wF.heap.size wF w'/\w'.cell? ⟨w.heap.size,0,none⟩=some (.slice ad k cd)/\w'.cell? ⟨w.heap.size,1,none⟩=some (.slice (some ⟨b,off,none⟩) N cf)/\w'.cell? ⟨Fb,1,none⟩=some (.int .i64 f1)/\w'.cell? ⟨Fb,4,none⟩=some (.string f4))
            (first | (exact HS.out _ ((bR _ _).drew)) | (exact HS.out _ (bch (And.left (by assumption)) G6 (nl _))) | (exact HS.out _ (bch (And.left (by assumption)) G5 (nl _))))
            (first
             | (go_at_call 63;refine (CD'.out _ ?_).mono ?_;exact And.left (by assumption);rintro e w5 ⟨rfl,G5⟩)
             | (go_at_call 62;refine (CU'.out _).mono ?_;rintro e w6 ⟨rfl,G6⟩))
           all_goals
            have B12:Below wF.heap.size wF w6:=bch (bch ((bR _ _).drew) G5 (nl _)) G6 (nl _);have n2:=(B12.cell (p:=⟨Fb,2,none⟩) hFz).trans k2;have n3:=(B12.cell (p:=⟨Fb,3,none⟩) hFz).trans k3;have B13:=bch B10 B12 (nl _);have B14:=bch B11 B12 (nl _)
            have B15:Hid (∀ n,Below w.heap.size w (w6.drewN n)/\Below w1.heap.size w1 (w6.drewN n)):=fun n=>⟨below_drewN B13 n,below_drewN B14 n⟩
            clear G5 G6 HS CD' CU' k1 k2 k3 k4 B10 B11 B12 B13 B14;by_cases h2:(T.size:Int)=f2
            ·by_cases h3:M=f3
             ·have hok:Hid (Ar.okAt a m=true):=HO.out true (by rw [HE'.out];exact decide_eq_true ⟨h2,h3⟩);have e3:(M == f3)=true:=by simpa using h3
              have e4:(M != f3)=false:=by simpa using h3
              have e5:((T.size:Int) == f2)=true:=by simpa using h2
              have e6:((T.size:Int) != f2)=false:=by simpa using h2
              subst h3 h2;clear HE' HO;go_wp2_with fail
              go_quiet ((go_at_call 64;exact Calls.quiet_of_same (C6.out _)))
              all_goals
               go_wp2_with fail
               go_roundw
               case rel=>exact ⟨m+1,by omega,by go_num,HGn.out hok.out,(B15.out _).2⟩
               case measure=>simp [intOf];omega
             ·have hok:Hid (c=1):=HC1.out (HO.out false (by rw [HE'.out];exact decide_eq_false (fun h=>h3 h.2)));have e3:(M == f3)=false:=by simpa using h3
              have e4:(M != f3)=true:=by simpa using h3
              have e5:decide (M=f3)=false:=dF h3;subst h2;clear HE' HO h3;go_wp2_with fail
              go_quiet ((go_at_call 64;exact Calls.quiet_of_same (C6.out _)))
              all_goals
               go_wp2_with fail
               go_ret
               exact HQ.out hok.out _ (B15.out _).1
            ·have hok:Hid (c=1):=HC1.out (HO.out false (by rw [HE'.out];exact decide_eq_false (fun h=>h2 h.1)));have e3:((T.size:Int) == f2)=false:=by simpa using h2
             have e4:((T.size:Int) != f2)=true:=by simpa using h2
             have e5:decide ((T.size:Int)=f2)=false:=dF h2;clear HE' HO h2 C6;go_wp2_with fail
             go_quiet (fail)
             all_goals
              go_wp2_with fail
              go_ret
              exact HQ.out hok.out _ (B15.out _).1
          ·have CU':Hid (∀ w',Calls Tryz.prog 62 #[.string X,.string f4] w' fun e w2=>∃ x,e=.returned (.tuple #[.string x,.bool false])/\Below w'.heap.size w' w2):=fun w'=>(CU.out w').mono (by
            rintro e w2 ⟨x,rfl,_,_,G⟩
            exact ⟨x,by rw [dF hE],G⟩)
           have hok:Hid (c=1):=HC1.out (HO.out false (by rw [HE.out];exact dF (fun h=>hE h.1)));clear CU HE HZ hE HO;go_wp2_with fail
           go_region_held3 (fun w'=>Below wF.heap.size wF w'/\w'.cell? ⟨w.heap.size,0,none⟩=some (.slice ad k cd)/\w'.cell? ⟨w.heap.size,1,none⟩=some (.slice (some ⟨b,off,none⟩) N cf)/\w'.cell? ⟨Fb,1,none⟩=some (.int .i64 f1)/\w'.cell? ⟨Fb,4,none⟩=some (.string f4))
            (first | (exact HS.out _ ((bR _ _).drew)) | (exact HS.out _ (bch (And.left (by assumption)) G6 (nl _))) | (exact HS.out _ (bch (And.left (by assumption)) G5 (nl _))))
            (first
             | (go_at_call 63;refine (CD'.out _ ?_).mono ?_;exact And.left (by assumption);rintro e w5 ⟨rfl,G5⟩)
             | (go_at_call 62;refine (CU'.out _).mono ?_;rintro e w6 ⟨x,rfl,G6⟩))
           all_goals
            have B13:=bch B10 (bch (bch ((bR _ _).drew) G5 (nl _)) G6 (nl _)) (nl _);have B15:Hid (∀ n,Below w.heap.size w (w6.drewN n)):=fun n=>below_drewN B13 n
            clear G5 G6 HS CD' CU' k1 k2 k3 k4 B10 B11 B13;go_wp2_with fail
            go_quiet (fail)
            all_goals
             go_wp2_with fail
             go_ret
             exact HQ.out hok.out _ (B15.out _)
    ·obtain rfl:m=N:=by omega
     have d2:decide ((m:Int)<(m:Int))=false:=by simp
     have HR:Hid (c=0):=HGk.out HGm.out;go_wp2_with fail
     go_ret
     exact ⟨congrArg (fun x=>Ending.returned (Value.int .i64 x)) HR.out.symm,B3⟩
theorem Zs (ad af:Option Addr) (cd cf:Nat) (a:Ar.A) (w:World) (h:ArV w ad af a) (hs:SaneA a) :
 Calls Tryz.prog 19 #[av ad cd af cf a] w fun e w'=>e=.returned (.int .i64 (Ar.chk a))/\Below w.heap.size w w':=by
 by_cases hm:4<a.dicts.length\/12<a.files.length
 ·have e:Ar.chk a=2:=by
   have:Ar.many a=true:=by unfold Ar.many;rw [zdT hm];rfl
   unfold Ar.chk;rw [if_pos this]
  rw [e];exact ZfV ad af cd cf a w hs.nd hs.nf hm
 ·exact Zfh ad af cd cf a w h hs (by omega) (by omega)
theorem ZmN (ad af:Option Addr) (cd cf:Nat) (a:Ar.A) (name text:ByteArray) (dict:Int) (w:World) (h:ArV w ad af a) (hs:SaneA a) (hc:Ar.chk a ≠ 0) :
 Calls Tryz.prog 15 #[av ad cd af cf a,.string name,.string text,.int .i64 dict] w fun e w'=>ArSaid w Ar.az (Ar.chk a) e w':=by
 have C1:Hid (∀ w',Below w.heap.size w w'->Calls Tryz.prog 19 #[av ad cd af cf a] w' fun e w2=>e=.returned (.int .i64 (Ar.chk a))/\Below w'.heap.size w' w2):=fun w' h9=>Zs ad af cd cf a w' (h.below h9) hs
 have hQ:Hid (∀ w',Below w.heap.size w w'->ArSaid w Ar.az (Ar.chk a) (.returned (.tuple #[.agg #[.slice none 0 0,.slice none 0 0],.int .i64 (Ar.chk a)])) w'):=fun w' h9=>Zy h9
 generalize ArSaid w Ar.az (Ar.chk a)=Q at *;unfold av at C1 |-
 generalize Ar.chk a=E at *;have e1:(E != 0)=true:=by simpa using hc
 have e2:(E == 0)=false:=by simpa using hc
 clear hc;generalize a.dicts.length=D at *;generalize a.files.length=N at *;clear h hs;go_enter Tryz.func15,Tryz.ntmps15
 go_wp2_with fail
 refine (C1.out _ (Fr.start w _ _).b).mono ?_;rintro e w1 ⟨rfl,G1⟩;have F1:=(Fr.start w _ _).next G1;clear G1;obtain ⟨b,a0,a1,r0,r1,z0,z1,hz⟩:=id F1;go_wp2_with fail
 rw [F1.zero];exact bodyPost_ret (v:=.tuple #[.agg #[.slice none 0 0,.slice none 0 0],.int .i64 E]) (by simp [results,Tryz.results15,go_sem,F1.r0,F1.r1]) rfl (hQ.out _ F1.b)
theorem Zpi (ad af:Option Addr) (cd cf:Nat) (a:Ar.A) (name text:ByteArray) (dict:Int) (w:World) (h:ArV w ad af a) (hs:SaneA a) (hn:name.size<=140737488355328) (hc:Ar.chk a=0) (hm:Ar.isNm name=false) :
 Calls Tryz.prog 15 #[av ad cd af cf a,.string name,.string text,.int .i64 dict] w fun e w'=>ArSaid w Ar.az 4 e w':=by
 have C1:Hid (∀ w',Below w.heap.size w w'->Calls Tryz.prog 19 #[av ad cd af cf a] w' fun e w2=>e=.returned (.int .i64 (Ar.chk a))/\Below w'.heap.size w' w2):=fun w' h9=>Zs ad af cd cf a w' (h.below h9) hs
 have C2:Hid (∀ w',Calls Tryz.prog 56 #[.string name] w' fun e w2=>e=.returned (.bool (Ar.isNm name))/\w2=w'):=fun w'=>ZaD name w' hn
 have hQ:Hid (∀ w',Below w.heap.size w w'->ArSaid w Ar.az 4 (.returned (.tuple #[.agg #[.slice none 0 0,.slice none 0 0],.int .i64 4])) w'):=fun w' h9=>Zy h9
 generalize ArSaid w Ar.az 4=Q at *;rw [hc] at C1;rw [hm] at C2;clear hc hm hn;unfold av at C1 |-
 generalize a.dicts.length=D at *;generalize a.files.length=N at *;clear h hs;go_enter Tryz.func15,Tryz.ntmps15
 go_wp2_with fail
 refine (C1.out _ (Fr.start w _ _).b).mono ?_;rintro e w1 ⟨rfl,G1⟩;have F1:=(Fr.start w _ _).next G1;clear G1;obtain ⟨b,a0,a1,r0,r1,z0,z1,hz⟩:=id F1;go_wp2_with fail
 refine (C2.out _).mono ?_;rintro e w2 ⟨rfl,rfl⟩;go_wp2_with fail
 rw [F1.zero];exact bodyPost_ret (v:=.tuple #[.agg #[.slice none 0 0,.slice none 0 0],.int .i64 4]) (by simp [results,Tryz.results15,go_sem,F1.r0,F1.r1]) rfl (hQ.out _ F1.b)
theorem Zlh (ad af:Option Addr) (cd cf:Nat) (a:Ar.A) (name text:ByteArray) (dict:Int) (w:World) (h:ArV w ad af a) (hs:SaneA a) (hn:name.size<=140737488355328) (hc:Ar.chk a=0) (hm:Ar.isNm name=true) (hd:Ar.has a.dicts dict=false) :
 Calls Tryz.prog 15 #[av ad cd af cf a,.string name,.string text,.int .i64 dict] w fun e w'=>ArSaid w Ar.az 3 e w':=by
 have C1:Hid (∀ w',Below w.heap.size w w'->Calls Tryz.prog 19 #[av ad cd af cf a] w' fun e w2=>e=.returned (.int .i64 (Ar.chk a))/\Below w'.heap.size w' w2):=fun w' h9=>Zs ad af cd cf a w' (h.below h9) hs
 have C2:Hid (∀ w',Calls Tryz.prog 56 #[.string name] w' fun e w2=>e=.returned (.bool (Ar.isNm name))/\w2=w'):=fun w'=>ZaD name w' hn
 have C3:Hid (∀ w',Calls Tryz.prog 57 #[.int .i64 dict,.int .i64 0,.int .i64 (a.dicts.length:Nat)] w' fun e w2=>e=.returned (.bool (Ar.has a.dicts dict))/\w2=w'):=fun w'=>ZJ dict 0 (a.dicts.length:Nat) w'
 have hQ:Hid (∀ w',Below w.heap.size w w'->ArSaid w Ar.az 3 (.returned (.tuple #[.agg #[.slice none 0 0,.slice none 0 0],.int .i64 3])) w'):=fun w' h9=>Zy h9
 generalize ArSaid w Ar.az 3=Q at *;rw [hc] at C1;rw [hm] at C2;rw [hd] at C3;clear hc hm hn hd;unfold av at C1 |-
 generalize a.dicts.length=D at *;generalize a.files.length=N at *;clear h hs;go_enter Tryz.func15,Tryz.ntmps15
 go_wp2_with fail
 refine (C1.out _ (Fr.start w _ _).b).mono ?_;rintro e w1 ⟨rfl,G1⟩;have F1:=(Fr.start w _ _).next G1;clear G1;obtain ⟨b,a0,a1,r0,r1,z0,z1,hz⟩:=id F1;go_wp2_with fail
 refine (C2.out _).mono ?_;rintro e w2 ⟨rfl,rfl⟩;go_wp2_with fail
 refine (C3.out _).mono ?_;rintro e w3 ⟨rfl,rfl⟩;go_wp2_with fail
 rw [F1.zero];exact bodyPost_ret (v:=.tuple #[.agg #[.slice none 0 0,.slice none 0 0],.int .i64 3]) (by simp [results,Tryz.results15,go_sem,F1.r0,F1.r1]) rfl (hQ.out _ F1.b)
theorem ZkY (ad af:Option Addr) (cd cf:Nat) (a:Ar.A) (name text:ByteArray) (dict:Int) (w:World) (h:ArV w ad af a) (hs:SaneA a) (hn:name.size<=140737488355328) (hc:Ar.chk a=0) (hm:Ar.isNm name=true) (hd:Ar.has a.dicts dict=true) (hl:512<text.size) :
 Calls Tryz.prog 15 #[av ad cd af cf a,.string name,.string text,.int .i64 dict] w fun e w'=>ArSaid w Ar.az 2 e w':=by
 have C1:Hid (∀ w',Below w.heap.size w w'->Calls Tryz.prog 19 #[av ad cd af cf a] w' fun e w2=>e=.returned (.int .i64 (Ar.chk a))/\Below w'.heap.size w' w2):=fun w' h9=>Zs ad af cd cf a w' (h.below h9) hs
 have C2:Hid (∀ w',Calls Tryz.prog 56 #[.string name] w' fun e w2=>e=.returned (.bool (Ar.isNm name))/\w2=w'):=fun w'=>ZaD name w' hn
 have C3:Hid (∀ w',Calls Tryz.prog 57 #[.int .i64 dict,.int .i64 0,.int .i64 (a.dicts.length:Nat)] w' fun e w2=>e=.returned (.bool (Ar.has a.dicts dict))/\w2=w'):=fun w'=>ZJ dict 0 (a.dicts.length:Nat) w'
 have hQ:Hid (∀ w',Below w.heap.size w w'->ArSaid w Ar.az 2 (.returned (.tuple #[.agg #[.slice none 0 0,.slice none 0 0],.int .i64 2])) w'):=fun w' h9=>Zy h9
 generalize ArSaid w Ar.az 2=Q at *;rw [hc] at C1;rw [hm] at C2;rw [hd] at C3;have d1:decide ((512:Int)<(text.size:Int))=true:=zdT (by omega);have d1':decide (512<text.size)=true:=zdT hl;clear hc hm hn hd;unfold av at C1 |-
 generalize a.dicts.length=D at *;generalize a.files.length=N at *;clear h hs;go_enter Tryz.func15,Tryz.ntmps15
 go_wp2_with fail
 refine (C1.out _ (Fr.start w _ _).b).mono ?_;rintro e w1 ⟨rfl,G1⟩;have F1:=(Fr.start w _ _).next G1;clear G1;obtain ⟨b,a0,a1,r0,r1,z0,z1,hz⟩:=id F1;go_wp2_with fail
 refine (C2.out _).mono ?_;rintro e w2 ⟨rfl,rfl⟩;go_wp2_with fail
 refine (C3.out _).mono ?_;rintro e w3 ⟨rfl,rfl⟩;go_wp2_with fail
 rw [F1.zero];exact bodyPost_ret (v:=.tuple #[.agg #[.slice none 0 0,.slice none 0 0],.int .i64 2]) (by simp [results,Tryz.results15,go_sem,F1.r0,F1.r1]) rfl (hQ.out _ F1.b)
namespace Ar
theorem Zme (fs:List F) (f:F):∀ k,(rpK fs f k).1.length<=k+1/\((rpK fs f k).2=false->(rpK fs f k).1.length<=k)
 | 0=>by simp [rpK]
 | k+1=>by
  have ih:=Zme fs f k;rw [rpK];by_cases h1:(rpK fs f k).2=false/\Tr.bl (fa fs k).name f.name=false
  ·rw [if_pos h1];have:=ih.2 h1.1;by_cases h2:(fa fs k).name=f.name
   ·rw [if_pos h2];simp;omega
   ·rw [if_neg h2];simp;omega
  ·rw [if_neg h1];by_cases h2:(fa fs k).name=f.name
   ·rw [if_pos h2];exact ⟨by omega,fun h=>by have:=ih.2 h;omega⟩
   ·rw [if_neg h2];simp only [List.length_append,List.length_cons,List.length_nil];exact ⟨by omega,fun h=>by have:=ih.2 h;omega⟩
end Ar
theorem Zlm (ad af:Option Addr) (cd cf:Nat) (a:Ar.A) (name text:ByteArray) (dict:Int) (w:World) (h:ArV w ad af a) (hs:SaneA a) (hn:name.size<=140737488355328) (hc:Ar.chk a=0) (hm:Ar.isNm name=true) (hd:Ar.has a.dicts dict=true) (hl:text.size<=512)
 (R:Ar.A) (E:Int) (hR:(if 12<(Ar.Zfd a.files (Ar.pk a.dicts name text dict)).length then (Ar.az,(2:Int)) else (⟨a.dicts,Ar.Zfd a.files (Ar.pk a.dicts name text dict)⟩,0))=(R,E)) :
 Calls Tryz.prog 15 #[av ad cd af cf a,.string name,.string text,.int .i64 dict] w fun e w'=>ArSaid w R E e w':=by
 obtain ⟨i0,hi,hz0,hz1,hz2⟩:=info_parts (P:=Tryz.prog) (e:=9) (z:=.string ⟨#[]⟩) (size:=1) (bytes:=16) (by kernel_rfl);obtain ⟨j0,gi,gz0,gz1,gz2⟩:=info_parts (P:=Tryz.prog) (e:=46) (z:=.agg #[.string ⟨#[]⟩,.int .i64 0,.int .i64 0,.int .i64 0,.string ⟨#[]⟩]) (size:=5) (bytes:=56) (by kernel_rfl);obtain ⟨m1,m2,m3⟩:=Ar.Zw.1 (Ar.Zd.1 hc).1;have C1:Hid (∀ w',Below w.heap.size w w'->Calls Tryz.prog 19 #[av ad cd af cf a] w' fun e w2=>e=.returned (.int .i64 (Ar.chk a))/\Below w'.heap.size w' w2):=fun w' h9=>Zs ad af cd cf a w' (h.below h9) hs
 have C2:Hid (∀ w',Calls Tryz.prog 56 #[.string name] w' fun e w2=>e=.returned (.bool (Ar.isNm name))/\w2=w'):=fun w'=>ZaD name w' hn
 have C3:Hid (∀ w',Calls Tryz.prog 57 #[.int .i64 dict,.int .i64 0,.int .i64 (a.dicts.length:Nat)] w' fun e w2=>e=.returned (.bool (Ar.has a.dicts dict))/\w2=w'):=fun w'=>ZJ dict 0 (a.dicts.length:Nat) w'
 have C4:Hid (∀ w',Below w.heap.size w w'->Calls Tryz.prog 58 #[av ad cd af cf a,.string name,.string text,.int .i64 dict] w' fun e w2=>e=.returned (fv (Ar.pk a.dicts name text dict))/\Below w'.heap.size w' w2):=fun w' h9=>Zfq ad af cd cf a name text dict w' (h.ds.below h9) hs.nd hd (Ar.ZaL (Ar.Zd.1 hc).1 _) hl
 have HDn:Hid (∀ w',Below w.heap.size w w'->(a.dicts.length=0\/∃ b,ad=some b/\∀ j u,(a.dicts.map Value.string)[j]?=some u->w'.cell? (b.add j)=some u)):=fun w' h9=>(h.ds.below h9).news
 have HFl:Hid (∀ k,k<a.files.length->∃ b off,af=some ⟨b,off,none⟩/\b<w.heap.size/\Hid (∀ w',Below w.heap.size w w'->w'.cell? ⟨b,off+k*5,none⟩=some (.string (Ar.fa a.files k).name)/\w'.cell? ⟨b,off+k*5+1,none⟩=some (.int .i64 (Ar.fa a.files k).dict)/\w'.cell? ⟨b,off+k*5+2,none⟩=some (.int .i64 (Ar.fa a.files k).size)/\w'.cell? ⟨b,off+k*5+3,none⟩=some (.int .i64 (Ar.fa a.files k).sum)/\w'.cell? ⟨b,off+k*5+4,none⟩=some (.string (Ar.fa a.files k).blk))):=fun k hk=>by
  obtain ⟨b,off,h1,h2,h3⟩:=h.fs.at hk;refine ⟨b,off,h1,h2,fun w' h9=>?_⟩;obtain ⟨k0,k1,k2,k3,k4⟩:=h3.below h9 h2;exact ⟨k0,k1,k2,k3,k4⟩
 have HDl:Hid ((a.dicts.map Value.string).length=a.dicts.length*1):=by show _=_;simp
 have HD1:Hid (∀ u ∈ a.dicts.map Value.string,u.oneCell'=true):=fun u hu=>by obtain ⟨x,_,rfl⟩:=List.mem_map.1 hu;rfl
 rw [hc] at C1;rw [hm] at C2;rw [hd] at C3;have d1:decide ((512:Int)<(text.size:Int))=false:=dF (by omega);have d1':decide (512<text.size)=false:=dF (by omega)
 have hQ0:Hid (12<(Ar.Zfd a.files (Ar.pk a.dicts name text dict)).length->∀ w',Below w.heap.size w w'->ArSaid w R E (.returned (.tuple #[.agg #[.slice none 0 0,.slice none 0 0],.int .i64 2])) w'):=fun h9 w' h8=>by
  rw [if_pos h9] at hR;simp only [Prod.mk.injEq] at hR;obtain ⟨rfl,rfl⟩:=hR;exact Zy h8
 have hQ1:Hid (¬ 12<(Ar.Zfd a.files (Ar.pk a.dicts name text dict)).length->∀ v1 v2 w',w'.ownsRow w.heap.size 9 1 v1 a.dicts.length (a.dicts.map Value.string)->w'.ownsRow w.heap.size 46 5 v2 (Ar.Zfd a.files (Ar.pk a.dicts name text dict)).length (fcs (Ar.Zfd a.files (Ar.pk a.dicts name text dict)))->(∀ j,v1.ownBlock=some j->v2.ownBlock ≠ some j)->Below w.heap.size w w'->ArSaid w R E (.returned (.tuple #[.agg #[v1,v2],.int .i64 0])) w'):=fun h9 v1 v2 w' k1 k2 k3 k4=>by
  rw [if_neg h9] at hR;simp only [Prod.mk.injEq] at hR;obtain ⟨rfl,rfl⟩:=hR;exact ⟨v1,v2,rfl,⟨k1,k2,k3⟩,k4⟩
 generalize ArSaid w R E=Q at *;clear hR hc hm hd hn h hs m3;have hfn:(Ar.pk a.dicts name text dict).name=name:=rfl;generalize Ar.pk a.dicts name text dict=f at *
 have HRS:Hid (∀ k d b e,(Ar.rpK a.files f k).2=d->Tr.bl (Ar.fa a.files k).name name=b->decide ((Ar.fa a.files k).name=name)=e->Ar.rpK a.files f (k+1)=if d=false/\b=false then (if e=true then ((Ar.rpK a.files f k).1++[f],true) else (((Ar.rpK a.files f k).1++[f])++[Ar.fa a.files k],true)) else (if e=true then Ar.rpK a.files f k else ((Ar.rpK a.files f k).1++[Ar.fa a.files k],(Ar.rpK a.files f k).2))):=fun k d b e h1 h2 h3=>by
  rw [Ar.rpK,hfn,h1,h2];by_cases hq:(Ar.fa a.files k).name=name
  ·rw [zdT hq] at h3;subst h3;rw [if_pos hq];rfl
  ·rw [dF hq] at h3;subst h3;rw [if_neg hq];by_cases hz:d=false/\b=false
   ·rw [if_pos hz,if_pos hz];rfl
   ·rw [if_neg hz,if_neg hz,h1];rfl
 have HRE:Hid (Ar.Zfd a.files f=if (Ar.rpK a.files f a.files.length).2=true then (Ar.rpK a.files f a.files.length).1 else (Ar.rpK a.files f a.files.length).1++[f]):=rfl;have HRL:Hid (∀ k,(Ar.rpK a.files f k).1.length<=k+1):=fun k=>(Ar.Zme a.files f k).1
 have HR0:Hid (Ar.rpK a.files f 0=([],false)):=rfl;generalize Ar.rpK a.files f=rp at *;generalize Ar.Zfd a.files f=RE at *;have HFc:Hid (∀ k,fcs [Ar.fa a.files k]=[.string (Ar.fa a.files k).name,.int .i64 (Ar.fa a.files k).dict,.int .i64 (Ar.fa a.files k).size,.int .i64 (Ar.fa a.files k).sum,.string (Ar.fa a.files k).blk]):=fun k=>rfl
 have HFf:Hid (fcs [f]=[.string f.name,.int .i64 f.dict,.int .i64 f.size,.int .i64 f.sum,.string f.blk]):=rfl;clear hfn;unfold av at C1 C4 |-
 unfold fv at C4;generalize f.name=g0 at *;generalize f.dict=g1 at *;generalize f.size=g2 at *;generalize f.sum=g3 at *;generalize f.blk=g4 at *
 obtain ⟨D,hDD⟩:∃ D,a.dicts.length=D:=⟨_,rfl⟩
 obtain ⟨N,hNN⟩:∃ N,a.files.length=N:=⟨_,rfl⟩
 simp only [hDD,hNN] at C1 C3 C4 HDn HFl HDl hQ1 HRE m1 m2 |-
 clear hDD hNN;generalize a.dicts.map Value.string=ds at *;generalize Ar.fa a.files=fa at *;have hDi:(D:Int)<=4:=by omega
 have hNi:(N:Int)<=12:=by omega
 go_enter Tryz.func15,Tryz.ntmps15
 go_wp2_with fail
 refine (C1.out _ (Fr.start w _ _).b).mono ?_;rintro e w1 ⟨rfl,G1⟩;have F1:=(Fr.start w _ _).next G1;clear G1 C1;obtain ⟨b,a0,a1,r0,r1,z0,z1,hz⟩:=id F1;go_wp2_with fail
 refine (C2.out _).mono ?_;rintro e w2 ⟨rfl,rfl⟩;clear C2;go_wp2_with fail
 refine (C3.out _).mono ?_;rintro e w3 ⟨rfl,rfl⟩;clear C3;have hz9:w.heap.size<w3.heap.size:=by omega
 have O0:=Zdb w3 w3.heap.size 9 1 (nl _);have hD2:=HDn.out _ (F1.b.alloc (by have:=F1.b.size;omega) (.cells #[] 9 (0,0)));have hds1:=HDl.out;have hds2:=HD1.out
 go_wp2_with (first
  | (at_builtin;refine Zad rfl _ _ 22 rfl w3.heap.size 9 i0 (.string ⟨#[]⟩) 1 16 Tryz.underlying22 hi hz0 hz1 hz2 rfl (by decide) w3.heap.size 0 0 [] rfl O0 ad D cd ds rfl hds1 hD2 hds2 (by unfold maxLen;omega) (by omega) (by simp) _ rfl ?_;intro g cp w5 hown5 hgrow5 hat5)
  | fail)
 have BX:Below w3.heap.size w3 w5:=((Below.refl _ _).alloc (Nat.le_refl _) _).grown hgrow5 (by simp) (fun j hj=>by simp at hj;omega);simp only [Nat.zero_add,List.nil_append] at hown5 |-
 have S0:=CpS.new1 BX BX.size hown5;clear O0 hD2 hds1 hds2 hgrow5 hat5 hown5 HDn HDl HD1 BX a0 a1 r0 r1 z0 z1 b;generalize (w5.alloc (.cells #[.slice (some ⟨g,0,none⟩) D cp,.slice none 0 0] 25 (0,0)))=w6 at *;generalize w5.heap.size=C at *;go_loopw [12,13] (fun d i wr=>∃ (k:Nat) (v2:Value),k<=N/\d=.bool (rp k).2/\i=.int .i64 k/\CpS w3 wr C w3.heap.size (.slice (some ⟨g,0,none⟩) D cp) v2 D (rp k).1.length ds (fcs (rp k).1)) (fun _ i _=>N - (intOf i).toNat)
 case atStart=>exact ⟨0,_,by omega,by rw [HR0.out],rfl,by rw [HR0.out];exact S0⟩
 case round =>
  obtain ⟨k,v2,hk2,rfl,rfl,S1⟩:=hrel;have F2:=F1.keep S1.bel hz;obtain ⟨B2,a0,a1,r0,r1,z0,z1,hz2⟩:=id F2;by_cases hlt:k<N
  ·have e1:decide ((k:Int)<(N:Int))=true:=zdT (by omega);have e1':decide (k<N)=true:=zdT hlt;have hki:(k:Int)<(N:Int):=by omega
   obtain ⟨b,off,rfl,hbw,HFw⟩:=HFl.out k hlt;obtain ⟨c0,c1,c2,c3,c4⟩:=HFw.out wr B2;have hbl:b<wr.heap.size:=nT hbw B2.size;have HRk:=HRS.out k;have HFk:=HFc.out k;have HLk:=HRL.out k;have hbe:=ZdK (fa k).name name;by_cases hnm:(fa k).name=name
   ·rw [zdT hnm] at hbe
    cases hdn:(rp k).2 with
    | true =>
     have HN:Hid (rp (k+1)=rp k):=by
      show _=_;rw [HRk true _ true hdn rfl (zdT hnm)];rfl
     clear HRk;generalize (fa k).name=f0 at *;generalize (fa k).dict=f1 at *;generalize (fa k).size=f2 at *;generalize (fa k).sum=f3 at *;generalize (fa k).blk=f4 at *;subst hnm;go_wp2_with fail
     go_roundw
     case rel=>exact ⟨k+1,_,by omega,by rw [HN.out,hdn],by go_num,by rw [HN.out];exact S1⟩
     case measure=>simp [intOf];omega
    | false =>
     have hbl1:Tr.bl (fa k).name name=false:=by rw [hnm];exact Tr.ZcL _
     have HN:Hid (rp (k+1)=((rp k).1++[f],true)):=by
      show _=_;rw [HRk false false true hdn hbl1 (zdT hnm)];rfl
     unfold Tr.bl at hbl1;clear HRk hdn;generalize (rp k).1=L at *;have c1S:=S1.c1;have f1S:=S1.f1;have hbC:=S1.hb;have hlC:=S1.hC;obtain ⟨p2,q2,rfl,_⟩:=Zl S1.o2;generalize (fa k).name=f0 at *;generalize (fa k).dict=f1 at *;generalize (fa k).size=f2 at *;generalize (fa k).sum=f3 at *;generalize (fa k).blk=f4 at *;subst hnm;go_wp2_with fail
     go_region_law (first
      | (refine step_append_lies _ rfl _ _ 23 rfl w3.heap.size 46 j0 (.agg #[.string ⟨#[]⟩,.int .i64 0,.int .i64 0,.int .i64 0,.string ⟨#[]⟩]) 5 56 Tryz.underlying23 gi gz0 gz1 gz2 rfl (by decide) _ _ _ rfl (S2.o2.alloc _) ⟨w8.heap.size,0,none⟩ 1 1 [.string g0,.int .i64 g1,.int .i64 g2,.int .i64 g3,.string g4] rfl rfl (ZdR _ _ _ _ _ _ _) (one5 _ _ _ _ _) (by decide) (by unfold maxLen;omega) (by omega) (by simp;omega) _ rfl ?_;intro g7 cp7 w7 hown7 hgrow7 hat7 hlt7;obtain ⟨⟨q1,q2⟩,S4⟩:=S2.put2 hgrow7 hown7 hat7;clear hgrow7 hown7 hat7 hlt7)
      | (go_simp;go_at_call 58;refine (C4.out _ B2.drew).mono ?_;rintro e w8 ⟨rfl,G8⟩;have S2:=S1.below (Below.trans ((Below.refl _ _).drew) G8);have c1T:=S2.c1;have hbT:=S2.hb;have c9T:∀ o,(w8.alloc o).cell? ⟨C,1,none⟩=some (.slice p2 L.length q2):=(fun o=>(World.cell?_alloc_lt _ _ _ hbT).trans c1T)))
     all_goals
      have F4:=F1.keep S4.bel hz;have c1U:=S4.c1;have f1U:=S4.f1;have hbU:=S4.hb;have hlU:=S4.hC;have S9:=S4.below ((bR _ _).drew);obtain ⟨B4,a0',a1',_,_,_,_,hz4⟩:=id F4;obtain ⟨c0',c1',c2',c3',c4'⟩:=HFw.out _ B4;have hbl':=nT hbw B4.size;clear c0 c1 c2 c3 c4 a0 a1 r0 r1 z0 z1 F2 F4 hz2 c1S f1S hbC hlC S1 S2 c1T hbT c9T G8 q1 q2;generalize (w7.setCell ⟨C,1,none⟩ (.slice (some ⟨g7,0,none⟩) (L.length+1) cp7))=wS at *;go_wp2_with fail
      go_roundw
      case rel=>exact ⟨k+1,_,by omega,by rw [HN.out],by go_num,by rw [HN.out];simp only [List.length_append,List.length_cons,List.length_nil,Zz,HFf.out];exact S4⟩
      case measure=>simp [intOf];omega
   ·rw [dF hnm] at hbe
    cases hdn:(rp k).2 with
    | true =>
     have HN:Hid (rp (k+1)=((rp k).1++[fa k],true)):=by
      show _=_;rw [HRk true _ false hdn rfl (dF hnm),hdn];rfl
     clear HRk hdn hnm;generalize (rp k).1=L at *;have c1S:=S1.c1;have f1S:=S1.f1;have hbC:=S1.hb;have hlC:=S1.hC;obtain ⟨p2,q2,rfl,_⟩:=Zl S1.o2;have S9:=S1.below ((bR _ _).drew);generalize (fa k).name=f0 at *;generalize (fa k).dict=f1 at *;generalize (fa k).size=f2 at *;generalize (fa k).sum=f3 at *;generalize (fa k).blk=f4 at *;go_wp2_with fail
     go_region_law (first
      | (refine step_append_lies _ rfl _ _ 23 rfl w3.heap.size 46 j0 (.agg #[.string ⟨#[]⟩,.int .i64 0,.int .i64 0,.int .i64 0,.string ⟨#[]⟩]) 5 56 Tryz.underlying23 gi gz0 gz1 gz2 rfl (by decide) _ _ _ rfl (S9.o2.alloc _) ⟨wr.drew.heap.size,0,none⟩ 1 1 [.string f0,.int .i64 f1,.int .i64 f2,.int .i64 f3,.string f4] rfl rfl (ZdR _ _ _ _ _ _ _) (one5 _ _ _ _ _) (by decide) (by unfold maxLen;omega) (by omega) (by simp;omega) _ rfl ?_;intro g9 cp9 w9 hown7 hgrow7 hat7 hlt7;obtain ⟨⟨q1,q2⟩,S10⟩:=S9.put2 hgrow7 hown7 hat7;clear hgrow7 hown7 hat7 hlt7))
     all_goals
      go_wp2_with fail
      go_roundw
      case rel=>exact ⟨k+1,_,by omega,by rw [HN.out],by go_num,by rw [HN.out];simp only [List.length_append,List.length_cons,List.length_nil,Zz,HFk];exact S10⟩
      case measure=>simp [intOf];omega
    | false =>
     cases hbl1:Tr.bl (fa k).name name with
     | true =>
      have HN:Hid (rp (k+1)=((rp k).1++[fa k],false)):=by
       show _=_;rw [HRk false true false hdn hbl1 (dF hnm),hdn];rfl
      unfold Tr.bl at hbl1;clear HRk hdn hnm;generalize (rp k).1=L at *;have c1S:=S1.c1;have f1S:=S1.f1;have hbC:=S1.hb;have hlC:=S1.hC;obtain ⟨p2,q2,rfl,_⟩:=Zl S1.o2;have S9:=S1.below ((bR _ _).drew);generalize (fa k).name=f0 at *;generalize (fa k).dict=f1 at *;generalize (fa k).size=f2 at *;generalize (fa k).sum=f3 at *;generalize (fa k).blk=f4 at *;go_wp2_with fail
      go_region_law (first
       | (refine step_append_lies _ rfl _ _ 23 rfl w3.heap.size 46 j0 (.agg #[.string ⟨#[]⟩,.int .i64 0,.int .i64 0,.int .i64 0,.string ⟨#[]⟩]) 5 56 Tryz.underlying23 gi gz0 gz1 gz2 rfl (by decide) _ _ _ rfl (S9.o2.alloc _) ⟨wr.drew.heap.size,0,none⟩ 1 1 [.string f0,.int .i64 f1,.int .i64 f2,.int .i64 f3,.string f4] rfl rfl (ZdR _ _ _ _ _ _ _) (one5 _ _ _ _ _) (by decide) (by unfold maxLen;omega) (by omega) (by simp;omega) _ rfl ?_;intro g9 cp9 w9 hown7 hgrow7 hat7 hlt7;obtain ⟨⟨q1,q2⟩,S10⟩:=S9.put2 hgrow7 hown7 hat7;clear hgrow7 hown7 hat7 hlt7))
      all_goals
       go_wp2_with fail
       go_roundw
       case rel=>exact ⟨k+1,_,by omega,by rw [HN.out],by go_num,by rw [HN.out];simp only [List.length_append,List.length_cons,List.length_nil,Zz,HFk];exact S10⟩
       case measure=>simp [intOf];omega
     | false =>
      have HN:Hid (rp (k+1)=((rp k).1++[f]++[fa k],true)):=by
       show _=_;rw [HRk false false false hdn hbl1 (dF hnm)];rfl
      unfold Tr.bl at hbl1;clear HRk hdn hnm;generalize (rp k).1=L at *;have c1S:=S1.c1;have f1S:=S1.f1;have hbC:=S1.hb;have hlC:=S1.hC;obtain ⟨p2,q2,rfl,_⟩:=Zl S1.o2;generalize (fa k).name=f0 at *;generalize (fa k).dict=f1 at *;generalize (fa k).size=f2 at *;generalize (fa k).sum=f3 at *;generalize (fa k).blk=f4 at *;go_wp2_with fail
      go_region_law (first
       | (refine step_append_lies _ rfl _ _ 23 rfl w3.heap.size 46 j0 (.agg #[.string ⟨#[]⟩,.int .i64 0,.int .i64 0,.int .i64 0,.string ⟨#[]⟩]) 5 56 Tryz.underlying23 gi gz0 gz1 gz2 rfl (by decide) _ _ _ rfl (S2.o2.alloc _) ⟨w8.heap.size,0,none⟩ 1 1 [.string g0,.int .i64 g1,.int .i64 g2,.int .i64 g3,.string g4] rfl rfl (ZdR _ _ _ _ _ _ _) (one5 _ _ _ _ _) (by decide) (by unfold maxLen;omega) (by omega) (by simp;omega) _ rfl ?_;intro g7 cp7 w7 hown7 hgrow7 hat7 hlt7;obtain ⟨⟨q1,q2⟩,S4⟩:=S2.put2 hgrow7 hown7 hat7;clear hgrow7 hown7 hat7 hlt7)
       | (go_simp;go_at_call 58;refine (C4.out _ B2.drew).mono ?_;rintro e w8 ⟨rfl,G8⟩;have S2:=S1.below (Below.trans ((Below.refl _ _).drew) G8);have c1T:=S2.c1;have hbT:=S2.hb;have c9T:∀ o,(w8.alloc o).cell? ⟨C,1,none⟩=some (.slice p2 L.length q2):=(fun o=>(World.cell?_alloc_lt _ _ _ hbT).trans c1T)))
      all_goals
       have F4:=F1.keep S4.bel hz;have c1U:=S4.c1;have f1U:=S4.f1;have hbU:=S4.hb;have hlU:=S4.hC;have S9:=S4.below ((bR _ _).drew);obtain ⟨B4,a0',a1',_,_,_,_,hz4⟩:=id F4;obtain ⟨c0',c1',c2',c3',c4'⟩:=HFw.out _ B4;have hbl':=nT hbw B4.size;clear c0 c1 c2 c3 c4 a0 a1 r0 r1 z0 z1 F2 F4 hz2 c1S f1S hbC hlC S1 S2 c1T hbT c9T G8 q1 q2;generalize (w7.setCell ⟨C,1,none⟩ (.slice (some ⟨g7,0,none⟩) (L.length+1) cp7))=wS at *;go_wp2_with fail
       go_region_law (first
        | (refine step_append_lies _ rfl _ _ 23 rfl w3.heap.size 46 j0 (.agg #[.string ⟨#[]⟩,.int .i64 0,.int .i64 0,.int .i64 0,.string ⟨#[]⟩]) 5 56 Tryz.underlying23 gi gz0 gz1 gz2 rfl (by decide) _ _ _ rfl (S9.o2.alloc _) ⟨wS.drew.heap.size,0,none⟩ 1 1 [.string f0,.int .i64 f1,.int .i64 f2,.int .i64 f3,.string f4] rfl rfl (ZdR _ _ _ _ _ _ _) (one5 _ _ _ _ _) (by decide) (by unfold maxLen;omega) (by omega) (by simp;omega) _ rfl ?_;intro g9 cp9 w9 hown7 hgrow7 hat7 hlt7;obtain ⟨⟨q1,q2⟩,S10⟩:=S9.put2 hgrow7 hown7 hat7;clear hgrow7 hown7 hat7 hlt7))
       all_goals
        go_wp2_with fail
        go_roundw
        case rel=>exact ⟨k+1,_,by omega,by rw [HN.out],by go_num,by rw [HN.out];simp only [List.length_append,List.length_cons,List.length_nil,Zz,HFk,HFf.out];exact S10⟩
        case measure=>simp [intOf];omega
  ·obtain rfl:k=N:=by omega
   have e1:decide ((k:Int)<(k:Int))=false:=by simp
   cases hdn:(rp k).2 with
   | true =>
    have hE:RE=(rp k).1:=by rw [HRE.out,if_pos hdn]
    rw [<-hE] at S1;clear hdn HRE hE HRS HRL HR0 HFl HFc;obtain ⟨p2,q2,rfl,_⟩:=Zl S1.o2;have ne9:=S1.ne;have cc0:=S1.c0;have cc1:=S1.c1;have hC2:=S1.hb;by_cases hq:12<RE.length
    ·have hfin:=hQ0.out hq _ F2.b;have e2:decide ((12:Int)<(RE.length:Int))=true:=zdT (by omega);have e2':decide (12<RE.length)=true:=zdT hq;generalize RE.length=n at *;clear S1 hQ0 hQ1;go_wp2_with fail
     rw [F2.zero];exact bodyPost_ret (v:=.tuple #[.agg #[.slice none 0 0,.slice none 0 0],.int .i64 2]) (by simp [results,Tryz.results15,go_sem,F2.r0,F2.r1]) rfl hfin
    ·obtain ⟨Bz,Oz1,Oz2,Rz0,Rz1⟩:=Zbb F2.b S1.o1 S1.o2 hz F2.r0 F2.r1;have hfin:=hQ1.out hq _ _ _ Oz1 Oz2 ne9 Bz;have e2:decide ((12:Int)<(RE.length:Int))=false:=dF (by omega);have e2':decide (12<RE.length)=false:=dF hq;have hn12:RE.length<=12:=by omega
     generalize RE.length=n at *;clear S1 hQ0 hQ1 Oz1 Oz2 Bz hq;go_wp2_with fail
     generalize (wr.setCell ⟨w.heap.size+1,0,none⟩ (.slice (some ⟨g,0,none⟩) D cp)).setCell ⟨w.heap.size+1,1,none⟩ (.slice p2 n q2)=wz at *;exact bodyPost_ret (v:=.tuple #[.agg #[.slice (some ⟨g,0,none⟩) D cp,.slice p2 n q2],.int .i64 0]) (by simp [results,Tryz.results15,go_sem,Rz0,Rz1]) rfl hfin
   | false =>
    have hE:RE=(rp k).1++[f]:=by rw [HRE.out,if_neg (by rw [hdn];decide)]
    have HLk:=HRL.out k;generalize (rp k).1=L at *;have c1S:=S1.c1;have f1S:=S1.f1;have hbC:=S1.hb;have hlC:=S1.hC;obtain ⟨p2,q2,rfl,_⟩:=Zl S1.o2
    have HE:Hid (fcs RE=fcs L++[.string g0,.int .i64 g1,.int .i64 g2,.int .i64 g3,.string g4]/\RE.length=L.length+1):=⟨by rw [hE,Zz,HFf.out],by rw [hE,List.length_append];rfl⟩
    clear hdn HRE hE HRS HRL HR0 HFl HFc HFf;go_wp2_with fail
    go_region_law (first
     | (refine step_append_lies _ rfl _ _ 23 rfl w3.heap.size 46 j0 (.agg #[.string ⟨#[]⟩,.int .i64 0,.int .i64 0,.int .i64 0,.string ⟨#[]⟩]) 5 56 Tryz.underlying23 gi gz0 gz1 gz2 rfl (by decide) _ _ _ rfl (S2.o2.alloc _) ⟨w8.heap.size,0,none⟩ 1 1 [.string g0,.int .i64 g1,.int .i64 g2,.int .i64 g3,.string g4] rfl rfl (ZdR _ _ _ _ _ _ _) (one5 _ _ _ _ _) (by decide) (by unfold maxLen;omega) (by omega) (by simp;omega) _ rfl ?_;intro g7 cp7 w7 hown7 hgrow7 hat7 hlt7;obtain ⟨⟨q1,q2⟩,S4⟩:=S2.put2 hgrow7 hown7 hat7;clear hgrow7 hown7 hat7 hlt7)
     | (go_simp;go_at_call 58;refine (C4.out _ B2.drew).mono ?_;rintro e w8 ⟨rfl,G8⟩;have S2:=S1.below (Below.trans ((Below.refl _ _).drew) G8);have c1T:=S2.c1;have hbT:=S2.hb;have c9T:∀ o,(w8.alloc o).cell? ⟨C,1,none⟩=some (.slice p2 L.length q2):=(fun o=>(World.cell?_alloc_lt _ _ _ hbT).trans c1T)))
    all_goals
     have F4:=F1.keep S4.bel hz;rw [<-HE.out.1,<-HE.out.2] at S4;rw [<-HE.out.2] at F4;clear a0 a1 r0 r1 z0 z1 F2 hz2 c1S f1S hbC hlC S1 S2 c1T hbT c9T G8 q1 q2;rw [<-HE.out.2];generalize (w7.setCell ⟨C,1,none⟩ (.slice (some ⟨g7,0,none⟩) RE.length cp7))=wS at *;obtain ⟨B4,a0,a1,r0,r1,z0,z1,hz2⟩:=id F4;have ne9:=S4.ne;have cc0:=S4.c0;have cc1:=S4.c1;have hC2:=S4.hb;by_cases hq:12<RE.length
     ·have hfin:=hQ0.out hq _ F4.b;have e2:decide ((12:Int)<(RE.length:Int))=true:=zdT (by omega);have e2':decide (12<RE.length)=true:=zdT hq;generalize RE.length=n at *;clear S4 hQ0 hQ1;go_wp2_with fail
      rw [F4.zero];exact bodyPost_ret (v:=.tuple #[.agg #[.slice none 0 0,.slice none 0 0],.int .i64 2]) (by simp [results,Tryz.results15,go_sem,F4.r0,F4.r1]) rfl hfin
     ·obtain ⟨Bz,Oz1,Oz2,Rz0,Rz1⟩:=Zbb F4.b S4.o1 S4.o2 hz F4.r0 F4.r1;have hfin:=hQ1.out hq _ _ _ Oz1 Oz2 ne9 Bz;have e2:decide ((12:Int)<(RE.length:Int))=false:=dF (by omega);have e2':decide (12<RE.length)=false:=dF hq;have hn12:RE.length<=12:=by omega
      generalize RE.length=n at *;clear S4 hQ0 hQ1 Oz1 Oz2 Bz hq;go_wp2_with fail
      generalize (wS.setCell ⟨w.heap.size+1,0,none⟩ (.slice (some ⟨g,0,none⟩) D cp)).setCell ⟨w.heap.size+1,1,none⟩ (.slice (some ⟨g7,0,none⟩) n cp7)=wz at *;exact bodyPost_ret (v:=.tuple #[.agg #[.slice (some ⟨g,0,none⟩) D cp,.slice (some ⟨g7,0,none⟩) n cp7],.int .i64 0]) (by simp [results,Tryz.results15,go_sem,Rz0,Rz1]) rfl hfin
theorem Zop (ad af:Option Addr) (cd cf:Nat) (a:Ar.A) (name text:ByteArray) (dict:Int) (w:World) (h:ArV w ad af a) (hs:SaneA a) (hn:name.size<=140737488355328) :
 Calls Tryz.prog 15 #[av ad cd af cf a,.string name,.string text,.int .i64 dict] w fun e w'=>ArSaid w (Ar.putA a name text dict) (Ar.putE a name text dict) e w':=by
 have bad:∀ E:Int,E ≠ 0->Ar.putE a name text dict=E->Ar.putA a name text dict=Ar.az:=fun E h1 h2=>by unfold Ar.putA;rw [h2,if_neg h1]
 by_cases hc:Ar.chk a=0
 ·cases hm:Ar.isNm name with
  | false =>
   have e:Ar.putE a name text dict=4:=by unfold Ar.putE;rw [if_neg (fun h9=>h9 hc),if_pos hm]
   rw [bad 4 (by decide) e,e];exact Zpi ad af cd cf a name text dict w h hs hn hc hm
  | true =>
   cases hd:Ar.has a.dicts dict with
   | false =>
    have e:Ar.putE a name text dict=3:=by unfold Ar.putE;rw [if_neg (fun h9=>h9 hc),if_neg (by rw [hm];decide),if_pos hd]
    rw [bad 3 (by decide) e,e];exact Zlh ad af cd cf a name text dict w h hs hn hc hm hd
   | true =>
    by_cases hl:512<text.size
    ·have e:Ar.putE a name text dict=2:=by unfold Ar.putE;rw [if_neg (fun h9=>h9 hc),if_neg (by rw [hm];decide),if_neg (by rw [hd];decide),if_pos (.inl hl)]
     rw [bad 2 (by decide) e,e];exact ZkY ad af cd cf a name text dict w h hs hn hc hm hd hl
    ·obtain ⟨m1,m2,m3⟩:=Ar.Zw.1 (Ar.Zd.1 hc).1;have hrp:=Ar.Zpf (Ar.Zbc hc) (Ar.pk a.dicts name text dict);have hlen:=Ar.ZtN a.files (Ar.pk a.dicts name text dict);have hnm:(Ar.pk a.dicts name text dict).name=name:=rfl;rw [hnm] at hlen;refine Zlm ad af cd cf a name text dict w h hs hn hc hm hd (by omega) _ _ ?_;rw [hrp]
     cases ht:Ar.ZL a.files name with
     | true =>
      rw [ht,if_pos rfl] at hlen
      have e:Ar.putE a name text dict=0:=by
       unfold Ar.putE;rw [if_neg (fun h9=>h9 hc),if_neg (by rw [hm];decide),if_neg (by rw [hd];decide),if_neg (by rw [ht];rintro (h9 | ⟨h9,_⟩);exact hl h9;cases h9)]
      rw [if_neg (by omega),Ar.Zmv e,e]
     | false =>
      rw [ht,if_neg (by decide)] at hlen;by_cases h12:a.files.length=12
      ·have e:Ar.putE a name text dict=2:=by
        unfold Ar.putE;rw [if_neg (fun h9=>h9 hc),if_neg (by rw [hm];decide),if_neg (by rw [hd];decide),if_pos (.inr ⟨ht,h12⟩)]
       rw [if_pos (by omega),bad 2 (by decide) e,e]
      ·have e:Ar.putE a name text dict=0:=by
        unfold Ar.putE;rw [if_neg (fun h9=>h9 hc),if_neg (by rw [hm];decide),if_neg (by rw [hd];decide),if_neg (by rintro (h9 | ⟨_,h9⟩);exact hl h9;exact h12 h9)]
       rw [if_neg (by omega),Ar.Zmv e,e]
 ·have e:Ar.putE a name text dict=Ar.chk a:=by unfold Ar.putE;rw [if_pos hc]
  rw [bad _ hc e,e];exact ZmN ad af cd cf a name text dict w h hs hc
theorem Zfp (ad af:Option Addr) (cd cf:Nat) (a:Ar.A) (name:ByteArray) (w:World) (h:FlSl w af a.files) (hn:a.files.length<=12) :
 Calls Tryz.prog 59 #[av ad cd af cf a,.string name] w fun e w'=>e=.returned (.int .i64 (match Ar.fatK a.files name a.files.length with | none=>-1 | some i=>(i:Int)))/\Below w.heap.size w w':=by
 have hb:=fun o=>(bR w.heap.size w).alloc (nl _) o
 have HFl:Hid (∀ w',Below w.heap.size w w'->∀ k,k<a.files.length->∃ b off,af=some ⟨b,off,none⟩/\b<w'.heap.size/\FlC w' b (off+k*5) (Ar.fa a.files k)):=fun w' h9 k hk=>(h.below h9).at hk
 obtain ⟨r,hr⟩:∃ r,(match Ar.fatK a.files name a.files.length with | none=>(-1:Int) | some i=>(i:Int))=r:=⟨_,rfl⟩
 rw [hr];have Hr:Hid ((match Ar.fatK a.files name a.files.length with | none=>(-1:Int) | some i=>(i:Int))=r):=hr;clear hr h;unfold av;generalize hN:a.files.length=N at *;have HN:Hid (a.files.length=N):=hN;clear hN;generalize a.dicts.length=D at *;have hNi:(N:Int)<=12:=by omega
 go_enter Tryz.func59,Tryz.ntmps59
 go_wp2_with fail
 have a1:(w.alloc (.cells #[.slice ad D cd,.slice af N cf] 25 (0,0))).cell? ⟨w.heap.size,1,none⟩=some (.slice af N cf):=cN _ _ _ 1;have B1:=hb (.cells #[.slice ad D cd,.slice af N cf] 25 (0,0));generalize (w.alloc (.cells #[.slice ad D cd,.slice af N cf] 25 (0,0)))=w1 at *;go_loopw [5] (fun i wr=>∃ k:Nat,k<=N/\i=.int .i64 k/\Hid (Ar.fatK a.files name k=none)/\wr=w1) (fun i _=>N - (intOf i).toNat)
 case atStart=>exact ⟨0,by omega,rfl,rfl,rfl⟩
 case round =>
  obtain ⟨k,hk2,rfl,HL,rfl⟩:=hrel;by_cases hlt:k<N
  ·have d1:decide ((k:Int)<(N:Int))=true:=by simp;omega
   have d1':decide (k<N)=true:=by simp;omega
   have hki:(k:Int)<(N:Int):=by omega
   obtain ⟨b,off,rfl,hbl,hcell⟩:=HFl.out wr B1 k hlt;obtain ⟨c0,c1,c2,c3,c4⟩:=hcell;have hbe:=ZdK (Ar.fa a.files k).name name;by_cases hd:(Ar.fa a.files k).name=name
   ·have HNx:Hid (Ar.fatK a.files name (k+1)=some k):=by show _=_;rw [Ar.fatK,HL.out];exact if_pos hd
    have HR:Hid ((k:Int)=r):=by
     have h9:=Ar.ZoI HNx.out (N - (k+1));rw [show k+1+(N - (k+1))=N by omega] at h9;have:=Hr.out;rw [h9] at this;exact this
    rw [zdT hd] at hbe;clear HNx hd Hr HL;generalize (Ar.fa a.files k).name=f0 at *;go_wp2_with fail
    go_ret
    exact ⟨congrArg (fun x=>Ending.returned (Value.int .i64 x)) HR.out,B1⟩
   ·have HNx:Hid (Ar.fatK a.files name (k+1)=none):=by show _=_;rw [Ar.fatK,HL.out];exact if_neg hd
    rw [dF hd] at hbe;clear hd;generalize (Ar.fa a.files k).name=f0 at *;go_wp2_with fail
    go_roundw
    case rel=>exact ⟨k+1,by omega,by go_num,HNx,by trivial⟩
    case measure=>simp [intOf];omega
  ·obtain rfl:k=N:=by omega
   have HR:Hid ((-1:Int)=r):=by have:=Hr.out;rw [HL.out] at this;exact this
   have d1:decide ((k:Int)<(k:Int))=false:=by simp
   clear Hr;go_wp2_with fail
   go_ret
   exact ⟨congrArg (fun x=>Ending.returned (Value.int .i64 x)) HR.out,B1⟩
end Go.Proofs.YtbjbjbpgmojcbabGreat
