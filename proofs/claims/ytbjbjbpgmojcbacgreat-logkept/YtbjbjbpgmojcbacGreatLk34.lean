/- A part of the proof: what it leans on. -/
import Derived.Test.YtbjbjbpgmojcbacGreatLk30
set_option maxRecDepth 8000
set_option maxHeartbeats 8000000
namespace Go.Proofs.YtbjbjbpgmojcbacGreat
open Go.RowKit
theorem Zft (ad af:Option Addr) (cd cf:Nat) (a:Ar.A) (w:World) (hn1:a.dicts.length<=8796093022208) (hn2:a.files.length<=8796093022208) (hm:4<a.dicts.length\/12<a.files.length) :
 Calls Tryz.prog 36 #[av ad cd af cf a] w fun e w'=>e=.returned (.int .i64 2)/\Below w.heap.size w w':=by
 have hb:=fun o=>(bR w.heap.size w).alloc (nl _) o
 unfold av;generalize a.dicts.length=D at *;generalize a.files.length=N at *;by_cases h4:4<D
 ·have d1:decide ((4:Int)<(D:Int))=true:=by simp;omega
  have d1':decide (4<D)=true:=by simp;omega
  clear hm;go_enter Tryz.func36,Tryz.ntmps36
  go_wp2_with fail
  go_ret
  exact ⟨rfl,hb _⟩
 ·have d1:decide ((4:Int)<(D:Int))=false:=by simp;omega
  have d1':decide (4<D)=false:=by simp;omega
  have d2:decide ((12:Int)<(N:Int))=true:=by simp;omega
  have d2':decide (12<N)=true:=by simp;omega
  clear hm h4;go_enter Tryz.func36,Tryz.ntmps36
  go_wp2_with fail
  go_ret
  exact ⟨rfl,hb _⟩
theorem ZeN (ad af:Option Addr) (cd cf:Nat) (a:Ar.A) (w:World) (h:ArV w ad af a) (hs:SaneA a) (m1:a.dicts.length<=4) (m2:a.files.length<=12) :
 Calls Tryz.prog 36 #[av ad cd af cf a] w fun e w'=>e=.returned (.int .i64 (Ar.chk a))/\Below w.heap.size w w':=by
 have hb:=fun o=>(bR w.heap.size w).alloc (nl _) o
 have HX:Hid (∀ w',Below w.heap.size w w'->∀ k,k<a.dicts.length->∃ b off,ad=some ⟨b,off,none⟩/\b<w'.heap.size/\w'.cell? ⟨b,off+k,none⟩=some (.string (Tr.xa a.dicts k))):=fun w' hb k hk=>(h.ds.below hb).at hk
 have HF:Hid (∀ w',Below w.heap.size w w'->∀ k,k<a.files.length->∃ b off,af=some ⟨b,off,none⟩/\b<w'.heap.size/\FlC w' b (off+k*5) (Ar.fa a.files k)):=fun w' h9 k hk=>(h.fs.below h9).at hk
 have HL2:Hid (∀ k,k<a.dicts.length->Ar.lgK a.dicts k=none->256<(Tr.xa a.dicts k).size->Ar.chk a=2):=fun k hk hl hs=>by
  have h1:Ar.lgK a.dicts (k+1)=some k:=by rw [Ar.lgK,hl];exact if_pos hs
  have h9:=Ar.ZdJ h1 (a.dicts.length - (k+1));rw [show k+1+(a.dicts.length - (k+1))=a.dicts.length by omega] at h9;have:Ar.many a=true:=by unfold Ar.many;rw [h9];simp
  unfold Ar.chk;rw [if_pos this]
 have HL0:Hid (∀ k,Ar.lgK a.dicts k=none->(Tr.xa a.dicts k).size<=256->Ar.lgK a.dicts (k+1)=none):=fun k hl hs=>by rw [Ar.lgK,hl];exact if_neg (by omega)
 have HM:Hid (Ar.lgK a.dicts a.dicts.length=none->Ar.many a=false):=fun hl=>by unfold Ar.many;rw [hl,decide_eq_false (by omega)];rfl
 have HB:Hid (Ar.many a=false->∀ k,k<a.files.length->Ar.okAt a k=false->Ar.chk a=1):=fun hm k hk ho=>by unfold Ar.chk;rw [hm,Ar.ZbR hk ho];rfl
 have HG:Hid (Ar.many a=false->Ar.gdK a a.files.length=true->Ar.chk a=0):=fun hm hg=>Ar.Ze.2 ⟨hm,hg⟩
 have HD:Hid (∀ (n:Int),Ar.has a.dicts n=true->∀ w',Below w.heap.size w w'->Calls Tryz.prog 71 #[av ad cd af cf a,.int .i64 n] w' fun e w2=>e=.returned (.string (Ar.dct a.dicts n))/\Below w'.heap.size w' w2):=fun n hh w' h9=>ZcX ad af cd cf a n w' (h.ds.below h9) hs.nd hh
 have HU:Hid (Ar.many a=false->∀ k w',Calls Tryz.prog 70 #[.string (Ar.dct a.dicts (Ar.fa a.files k).dict),.string (Ar.fa a.files k).blk] w' fun e w2=>ZaP (Ar.up a.dicts (Ar.fa a.files k)) w' e w2):=fun hm k w'=>Zds _ _ w' (Ar.ZaL hm _) (hs.bk k)
 have HN:Hid (∀ k,(Ar.fa a.files k).name.size<=140737488355328):=hs.nm
 obtain ⟨c,hc⟩:∃ c,Ar.chk a=c:=⟨_,rfl⟩
 rw [hc] at HL2 HB HG;rw [hc];clear hc h hs;unfold av at HD |-
 obtain ⟨D,hD⟩:∃ D,a.dicts.length=D:=⟨_,rfl⟩
 obtain ⟨N,hN⟩:∃ N,a.files.length=N:=⟨_,rfl⟩
 simp only [hD,hN] at HX HF HL2 HM HB HG HD m1 m2 |-
 have HNN:Hid (a.files.length=N):=hN;have HDD:Hid (a.dicts.length=D):=hD;clear hN hD;have hD':(D:Int)<=4:=by omega
 have hN':(N:Int)<=12:=by omega
 have e1:decide ((4:Int)<(D:Int))=false:=by simp;omega
 have e1':decide (4<D)=false:=by simp;omega
 have e2:decide ((12:Int)<(N:Int))=false:=by simp;omega
 have e2':decide (12<N)=false:=by simp;omega
 go_enter Tryz.func36,Tryz.ntmps36
 go_wp2_with fail
 have a0:(w.alloc (.cells #[.slice ad D cd,.slice af N cf] 33 (0,0))).cell? ⟨w.heap.size,0,none⟩=some (.slice ad D cd):=cN _ _ _ 0;have a1:(w.alloc (.cells #[.slice ad D cd,.slice af N cf] 33 (0,0))).cell? ⟨w.heap.size,1,none⟩=some (.slice af N cf):=cN _ _ _ 1;have B1:=hb (.cells #[.slice ad D cd,.slice af N cf] 33 (0,0));have hz1:w.heap.size<(w.alloc (.cells #[.slice ad D cd,.slice af N cf] 33 (0,0))).heap.size:=by simp
 generalize (w.alloc (.cells #[.slice ad D cd,.slice af N cf] 33 (0,0)))=w1 at *;go_loopw [3] (fun i wr=>∃ k:Nat,k<=D/\i=.int .i64 k/\Hid (Ar.lgK a.dicts k=none)/\wr=w1) (fun i _=>D - (intOf i).toNat)
 case atStart=>exact ⟨0,by omega,rfl,rfl,rfl⟩
 case round =>
  obtain ⟨k,hk2,rfl,HL,hwr⟩:=hrel;have hwr:=hwr.symm;subst hwr;by_cases hlt:k<D
  ·have d1:decide ((k:Int)<(D:Int))=true:=by simp;omega
   have d1':decide (k<D)=true:=by simp;omega
   have hki:(k:Int)<(D:Int):=by omega
   obtain ⟨b,off,rfl,hbl,hcell⟩:=HX.out w1 B1 k hlt;by_cases hs:256<(Tr.xa a.dicts k).size
   ·have HR:Hid (c=2):=HL2.out k hlt HL.out hs;have d2:decide ((256:Int)<((Tr.xa a.dicts k).size:Int))=true:=zdT (by omega);have d2':decide (256<(Tr.xa a.dicts k).size)=true:=zdT (by omega);clear HL;generalize Tr.xa a.dicts k=X at *;go_wp2_with fail
    go_ret
    exact ⟨congrArg (fun x=>Ending.returned (Value.int .i64 x)) HR.out.symm,B1⟩
   ·have HN1:Hid (Ar.lgK a.dicts (k+1)=none):=HL0.out k HL.out (by omega);have d2:decide ((256:Int)<((Tr.xa a.dicts k).size:Int))=false:=dF (by omega);have d2':decide (256<(Tr.xa a.dicts k).size)=false:=dF (by omega);generalize Tr.xa a.dicts k=X at *;clear hs;go_wp2_with fail
    go_roundw
    case rel=>exact ⟨k+1,by omega,by go_num,HN1,by trivial⟩
    case measure=>simp [intOf];omega
  ·obtain rfl:k=D:=by omega
   have d1:decide ((k:Int)<(k:Int))=false:=by simp
   have HMF:Hid (Ar.many a=false):=HM.out HL.out;have HBk:Hid (∀ m,m<N->Ar.okAt a m=false->c=1):=HB.out HMF.out;have HGk:Hid (Ar.gdK a N=true->c=0):=HG.out HMF.out;have HUk:Hid (∀ m w',Calls Tryz.prog 70 #[.string (Ar.dct a.dicts (Ar.fa a.files m).dict),.string (Ar.fa a.files m).blk] w' fun e w2=>ZaP (Ar.up a.dicts (Ar.fa a.files m)) w' e w2):=HU.out HMF.out;clear HL HM HL2 HL0 HB HG HU HMF HX;go_wp2_with fail
   go_loopw [4] (fun i w2=>∃ m:Nat,m<=N/\i=.int .i64 m/\Hid (Ar.gdK a m=true)/\Below w1.heap.size w1 w2) (fun i _=>N - (intOf i).toNat)
   case atStart=>exact ⟨0,by omega,rfl,rfl,bR _ _⟩
   case round =>
    obtain ⟨m,hm2,rfl,HGm,B2⟩:=hrel;have a0':=(B2.cell (p:=⟨w.heap.size,0,none⟩) hz1).trans a0;have a1':=(B2.cell (p:=⟨w.heap.size,1,none⟩) hz1).trans a1;have B3:=bch B1 B2 (nl _);have hz2:w.heap.size<wr.heap.size:=nT hz1 B2.size;by_cases hlt:m<N
    ·have d2:decide ((m:Int)<(N:Int))=true:=by simp;omega
     have d2':decide (m<N)=true:=by simp;omega
     have hmi:(m:Int)<(N:Int):=by omega
     obtain ⟨b,off,rfl,hbl,hcell⟩:=HF.out wr B3 m hlt;obtain ⟨c0,c1,c2,c3,c4⟩:=hcell;have CN:Hid (∀ w',Calls Tryz.prog 37 #[.string (Ar.fa a.files m).name] w' fun e w3=>e=.returned (.bool (Ar.isNm (Ar.fa a.files m).name))/\w3=w'):=fun w'=>ZaA _ w' (HN.out m)
     have CW:Hid (∀ w',Calls Tryz.prog 38 #[.int .i64 (Ar.fa a.files m).dict,.int .i64 0,.int .i64 (k:Nat)] w' fun e w3=>e=.returned (.bool (Ar.has a.dicts (Ar.fa a.files m).dict))/\w3=w'):=fun w'=>by
      have:=ZS (Ar.fa a.files m).dict 0 (k:Nat) w';unfold Ar.has;rw [HDD.out];exact this
     have HP:Hid (∀ x y z,Ar.isNm (Ar.fa a.files m).name=x->(decide (m=0) || Tr.bl (Ar.fa a.files (m - 1)).name (Ar.fa a.files m).name)=y->Ar.okf a.dicts (Ar.fa a.files m)=z->Ar.okAt a m=(x && y && z)):=fun x y z h1 h2 h3=>by unfold Ar.okAt;rw [h1,h2,h3]
     have HC1:Hid (Ar.okAt a m=false->c=1):=HBk.out m hlt
     have HQ:Hid (c=1->∀ w',Below w.heap.size w w'->(Ending.returned (.int .i64 1)=Ending.returned (.int .i64 c))/\Below w.heap.size w w'):=fun h1 w' h2=>⟨by rw [h1],h2⟩
     have BF:Hid (∀ o n,Below w.heap.size w ((wr.alloc o).drewN n)):=fun o n=>below_drewN (B3.alloc B3.size o) n
     cases hnm:Ar.isNm (Ar.fa a.files m).name with
     | false =>
      have hg:Hid (c=1):=HC1.out (by rw [HP.out false _ _ hnm rfl rfl];rfl);rw [hnm] at CN;clear hnm HP HC1 CW;generalize (Ar.fa a.files m).name=f0 at *;generalize (Ar.fa a.files m).dict=f1 at *;generalize (Ar.fa a.files m).size=f2 at *;generalize (Ar.fa a.files m).sum=f3 at *;generalize (Ar.fa a.files m).blk=f4 at *;go_wp2_with fail
      go_quiet ((go_at_call 37;exact Calls.quiet_of_same (CN.out _)))
      all_goals
       go_wp2_with fail
       go_ret
       exact HQ.out hg.out _ (BF.out _ _)
     | true =>
      rw [hnm] at CN;by_cases hm0:m=0
      ·have d3:decide ((0:Int)<(m:Int))=false:=by simp;omega
       have d3':decide (0<m)=false:=by simp;omega
       have hord:(decide (m=0) || Tr.bl (Ar.fa a.files (m - 1)).name (Ar.fa a.files m).name)=true:=by rw [decide_eq_true hm0];rfl
       clear hm0
       cases hhas:Ar.has a.dicts (Ar.fa a.files m).dict with
       | false =>
        have hg:Hid (c=1):=HC1.out (by rw [HP.out true true false hnm hord (by unfold Ar.okf;rw [hhas];rfl)];rfl);rw [hhas] at CW;clear hnm HP HC1 hhas hord;generalize (Ar.fa a.files m).name=f0 at *;generalize (Ar.fa a.files m).dict=f1 at *;generalize (Ar.fa a.files m).size=f2 at *;generalize (Ar.fa a.files m).sum=f3 at *;generalize (Ar.fa a.files m).blk=f4 at *;go_wp2_with fail
        go_quiet (first | (go_at_call 37;exact Calls.quiet_of_same (CN.out _)) | (go_at_call 38;exact Calls.quiet_of_same (CW.out _)))
        all_goals
         go_wp2_with fail
         go_ret
         exact HQ.out hg.out _ (BF.out _ _)
       | true =>
        have CD:Hid (∀ w',Below w.heap.size w w'->Calls Tryz.prog 71 #[.agg #[.slice ad k cd,.slice (some ⟨b,off,none⟩) N cf],.int .i64 (Ar.fa a.files m).dict] w' fun e w3=>e=.returned (.string (Ar.dct a.dicts (Ar.fa a.files m).dict))/\Below w'.heap.size w' w3):=HD.out _ hhas;have CU:Hid (∀ w',Calls Tryz.prog 70 #[.string (Ar.dct a.dicts (Ar.fa a.files m).dict),.string (Ar.fa a.files m).blk] w' fun e w3=>ZaP (Ar.up a.dicts (Ar.fa a.files m)) w' e w3):=HUk.out m;have HO:Hid (∀ z,Ar.okf a.dicts (Ar.fa a.files m)=z->Ar.okAt a m=z):=fun z h9=>by rw [HP.out true true z hnm hord h9];rfl
        have HE:Hid (Ar.okf a.dicts (Ar.fa a.files m)=decide ((Ar.up a.dicts (Ar.fa a.files m)).2=0/\((Ar.up a.dicts (Ar.fa a.files m)).1.size:Int)=(Ar.fa a.files m).size/\Ar.sm (Ar.up a.dicts (Ar.fa a.files m)).1=(Ar.fa a.files m).sum)):=by show _=_;unfold Ar.okf;rw [hhas,Bool.true_and]
        have HZ:Hid ((Ar.up a.dicts (Ar.fa a.files m)).2=0->(Ar.up a.dicts (Ar.fa a.files m)).1.size<=512):=fun h9=>Bk.unp_size h9
        rw [hhas] at CW;have HGn:Hid (Ar.okAt a m=true->Ar.gdK a (m+1)=true):=fun h9=>by rw [Ar.gdK,HGm.out,h9];rfl
        clear hnm HP hhas hord;unfold ZaP at CU
        obtain ⟨U,hU⟩:∃ U,Ar.up a.dicts (Ar.fa a.files m)=U:=⟨_,rfl⟩
        simp only [hU] at CU HE HZ;obtain ⟨T,E⟩:=U;simp only at CU HE HZ;clear hU;generalize Ar.okf a.dicts (Ar.fa a.files m)=ok at *;generalize Ar.dct a.dicts (Ar.fa a.files m).dict=X at *;generalize (Ar.fa a.files m).name=f0 at *;generalize (Ar.fa a.files m).dict=f1 at *;generalize (Ar.fa a.files m).size=f2 at *;generalize (Ar.fa a.files m).sum=f3 at *;generalize (Ar.fa a.files m).blk=f4 at *;go_wp2_with fail
        go_quiet (first | (go_at_call 37;exact Calls.quiet_of_same (CN.out _)) | (go_at_call 38;exact Calls.quiet_of_same (CW.out _)))
        all_goals
         have hFs:wr.heap.size<(wr.alloc (.cells #[.string f0,.int .i64 f1,.int .i64 f2,.int .i64 f3,.string f4] 47 (0,0))).heap.size:=by simp
         have BA:Below wr.heap.size wr (wr.alloc (.cells #[.string f0,.int .i64 f1,.int .i64 f2,.int .i64 f3,.string f4] 47 (0,0))):=(bR _ _).alloc (nl _) _;have B9:=below_drewN (bR (wr.alloc (.cells #[.string f0,.int .i64 f1,.int .i64 f2,.int .i64 f3,.string f4] 47 (0,0))).heap.size (wr.alloc (.cells #[.string f0,.int .i64 f1,.int .i64 f2,.int .i64 f3,.string f4] 47 (0,0)))) nq;have hF:=fun i=>(B9.cell (p:=⟨wr.heap.size,i,none⟩) hFs).trans (cN wr #[.string f0,.int .i64 f1,.int .i64 f2,.int .i64 f3,.string f4] 47 i)
         have hFz:wr.heap.size<((wr.alloc (.cells #[.string f0,.int .i64 f1,.int .i64 f2,.int .i64 f3,.string f4] 47 (0,0))).drewN nq).heap.size:=nT hFs B9.size;have BA9:=bch BA B9 (nl _);clear BA B9 hFs;generalize (wr.alloc (.cells #[.string f0,.int .i64 f1,.int .i64 f2,.int .i64 f3,.string f4] 47 (0,0))).drewN nq=wF at *;have q0:=(BA9.cell (p:=⟨w.heap.size,0,none⟩) hz2).trans a0';have q1:=(BA9.cell (p:=⟨w.heap.size,1,none⟩) hz2).trans a1';have hzF:w.heap.size<wF.heap.size:=nT hz2 BA9.size;have k1:wF.cell? ⟨wr.heap.size,1,none⟩=some (.int .i64 f1):=hF 1;have k2:wF.cell? ⟨wr.heap.size,2,none⟩=some (.int .i64 f2):=hF 2;have k3:wF.cell? ⟨wr.heap.size,3,none⟩=some (.int .i64 f3):=hF 3;have k4:wF.cell? ⟨wr.heap.size,4,none⟩=some (.string f4):=hF 4;have B10:=bch B3 BA9 (nl _);have B11:=bch B2 BA9 (nl _)
         have HS:Hid (∀ w',Below wF.heap.size wF w'->Below wF.heap.size wF w'/\w'.cell? ⟨w.heap.size,0,none⟩=some (.slice ad k cd)/\w'.cell? ⟨w.heap.size,1,none⟩=some (.slice (some ⟨b,off,none⟩) N cf)/\w'.cell? ⟨wr.heap.size,1,none⟩=some (.int .i64 f1)/\w'.cell? ⟨wr.heap.size,4,none⟩=some (.string f4)):=fun w' h9 =>
          ⟨h9,(h9.cell (p:=⟨w.heap.size,0,none⟩) hzF).trans q0,(h9.cell (p:=⟨w.heap.size,1,none⟩) hzF).trans q1,(h9.cell (p:=⟨wr.heap.size,1,none⟩) hFz).trans k1,(h9.cell (p:=⟨wr.heap.size,4,none⟩) hFz).trans k4⟩
         have CD':Hid (∀ w',Below wF.heap.size wF w'->Calls Tryz.prog 71 #[.agg #[.slice ad k cd,.slice (some ⟨b,off,none⟩) N cf],.int .i64 f1] w' fun e w3=>e=.returned (.string X)/\Below w'.heap.size w' w3):=fun w' h9=>CD.out w' (bch B10 h9 (nl _))
         clear hF a0 a1 a0' a1' q0 q1 c0 c1 c2 c3 c4 CD CN CW BF HF HD HUk
         obtain ⟨Fb,hFb⟩:∃ Fb,wr.heap.size=Fb:=⟨_,rfl⟩
         rw [hFb] at HS k1 k2 k3 k4 hFz |-
         clear hFb;by_cases hE:E=0
         ·have CU':Hid (∀ w',Calls Tryz.prog 70 #[.string X,.string f4] w' fun e w2=>e=.returned (.tuple #[.string T,.bool true])/\Below w'.heap.size w' w2):=fun w'=>(CU.out w').mono (by
           rintro e w2 ⟨x,rfl,h1,_,G⟩
           exact ⟨by rw [h1 hE,decide_eq_true hE],G⟩)
          have hT:=HZ.out hE;have hT':(T.size:Int)<=512:=by omega
          have C6:Hid (∀ w',Calls Tryz.prog 72 #[.string T] w' fun e w2=>e=.returned (.int .i64 (Ar.sm T))/\w2=w'):=fun w'=>Zej T w' (by omega)
          have HE':Hid (ok=decide ((T.size:Int)=f2/\Ar.sm T=f3)):=by show _=_;rw [HE.out];simp [hE]
          clear CU HE HZ hE;generalize Ar.sm T=M at *;go_wp2_with fail
          go_region_held3 (fun w'=>Below wF.heap.size wF w'/\w'.cell? ⟨w.heap.size,0,none⟩=some (.slice ad k cd)/\w'.cell? ⟨w.heap.size,1,none⟩=some (.slice (some ⟨b,off,none⟩) N cf)/\w'.cell? ⟨Fb,1,none⟩=some (.int .i64 f1)/\w'.cell? ⟨Fb,4,none⟩=some (.string f4))
           (first | (exact HS.out _ ((bR _ _).drew)) | (exact HS.out _ (bch (And.left (by assumption)) G6 (nl _))) | (exact HS.out _ (bch (And.left (by assumption)) G5 (nl _))))
           (first
            | (go_at_call 71;refine (CD'.out _ ?_).mono ?_;exact And.left (by assumption);rintro e w5 ⟨rfl,G5⟩)
            | (go_at_call 70;refine (CU'.out _).mono ?_;rintro e w6 ⟨rfl,G6⟩))
          all_goals
           have B12:Below wF.heap.size wF w6:=bch (bch ((bR _ _).drew) G5 (nl _)) G6 (nl _);have n2:=(B12.cell (p:=⟨Fb,2,none⟩) hFz).trans k2;have n3:=(B12.cell (p:=⟨Fb,3,none⟩) hFz).trans k3;have B13:=bch B10 B12 (nl _);have B14:=bch B11 B12 (nl _)
           have B15:Hid (∀ n,Below w.heap.size w (w6.drewN n)/\Below w1.heap.size w1 (w6.drewN n)):=fun n=>⟨below_drewN B13 n,below_drewN B14 n⟩
           clear G5 G6 HS CD' CU' k1 k2 k3 k4 B10 B11 B12 B13 B14;by_cases h2:(T.size:Int)=f2
           ·by_cases h3:M=f3
            ·have hok:Hid (Ar.okAt a m=true):=HO.out true (by rw [HE'.out];exact zdT ⟨h2,h3⟩);have e3:(M == f3)=true:=by simpa using h3
             have e4:(M != f3)=false:=by simpa using h3
             have e5:((T.size:Int) == f2)=true:=by simpa using h2
             have e6:((T.size:Int) != f2)=false:=by simpa using h2
             subst h3 h2;clear HE' HO;go_wp2_with fail
             go_quiet ((go_at_call 72;exact Calls.quiet_of_same (C6.out _)))
             all_goals
              go_wp2_with fail
              go_roundw
              case rel=>exact ⟨m+1,by omega,by go_num,HGn.out hok.out,(B15.out _).2⟩
              case measure=>simp [intOf];omega
            ·have hok:Hid (c=1):=HC1.out (HO.out false (by rw [HE'.out];exact dF (fun h=>h3 h.2)));have e3:(M == f3)=false:=by simpa using h3
             have e4:(M != f3)=true:=by simpa using h3
             have e5:decide (M=f3)=false:=dF h3;subst h2;clear HE' HO h3;go_wp2_with fail
             go_quiet ((go_at_call 72;exact Calls.quiet_of_same (C6.out _)))
             all_goals
              go_wp2_with fail
              go_ret
              exact HQ.out hok.out _ (B15.out _).1
           ·have hok:Hid (c=1):=HC1.out (HO.out false (by rw [HE'.out];exact dF (fun h=>h2 h.1)));have e3:((T.size:Int) == f2)=false:=by simpa using h2
            have e4:((T.size:Int) != f2)=true:=by simpa using h2
            have e5:decide ((T.size:Int)=f2)=false:=dF h2;clear HE' HO h2 C6;go_wp2_with fail
            go_quiet (fail)
            all_goals
             go_wp2_with fail
             go_ret
             exact HQ.out hok.out _ (B15.out _).1
         ·have CU':Hid (∀ w',Calls Tryz.prog 70 #[.string X,.string f4] w' fun e w2=>∃ x,e=.returned (.tuple #[.string x,.bool false])/\Below w'.heap.size w' w2):=fun w'=>(CU.out w').mono (by
           rintro e w2 ⟨x,rfl,_,_,G⟩
           exact ⟨x,by rw [decide_eq_false hE],G⟩)
          have hok:Hid (c=1):=HC1.out (HO.out false (by rw [HE.out];exact dF (fun h=>hE h.1)));clear CU HE HZ hE HO;go_wp2_with fail
          go_region_held3 (fun w'=>Below wF.heap.size wF w'/\w'.cell? ⟨w.heap.size,0,none⟩=some (.slice ad k cd)/\w'.cell? ⟨w.heap.size,1,none⟩=some (.slice (some ⟨b,off,none⟩) N cf)/\w'.cell? ⟨Fb,1,none⟩=some (.int .i64 f1)/\w'.cell? ⟨Fb,4,none⟩=some (.string f4))
           (first | (exact HS.out _ ((bR _ _).drew)) | (exact HS.out _ (bch (And.left (by assumption)) G6 (nl _))) | (exact HS.out _ (bch (And.left (by assumption)) G5 (nl _))))
           (first
            | (go_at_call 71;refine (CD'.out _ ?_).mono ?_;exact And.left (by assumption);rintro e w5 ⟨rfl,G5⟩)
            | (go_at_call 70;refine (CU'.out _).mono ?_;rintro e w6 ⟨x,rfl,G6⟩))
          all_goals
           have B13:=bch B10 (bch (bch ((bR _ _).drew) G5 (nl _)) G6 (nl _)) (nl _);have B15:Hid (∀ n,Below w.heap.size w (w6.drewN n)):=fun n=>below_drewN B13 n
           clear G5 G6 HS CD' CU' k1 k2 k3 k4 B10 B11 B13;go_wp2_with fail
           go_quiet (fail)
           all_goals
            go_wp2_with fail
            go_ret
            exact HQ.out hok.out _ (B15.out _)
      ·have d3:decide ((0:Int)<(m:Int))=true:=by simp;omega
       have d3':decide (0<m)=true:=by simp;omega
       have hw1:IntKind.i64.wrap ((m:Int) - 1)=(m:Int) - 1:=IntWalk.i64_in _ ⟨by omega,by omega⟩;obtain ⟨b',off',hbo,_,hprev⟩:=HF.out wr B3 (m - 1) (by omega);simp only [Option.some.injEq,Addr.mk.injEq,and_true] at hbo;obtain ⟨rfl,rfl⟩:=hbo;have p0:=hprev.c0;have p0':wr.cell? ⟨b,off+((m:Int) - 1).toNat*5,none⟩=some (.string (Ar.fa a.files (m - 1)).name):=by rw [show ((m:Int) - 1).toNat=m - 1 by omega];exact p0
       clear hprev
       cases hbl1:Tr.bl (Ar.fa a.files (m - 1)).name (Ar.fa a.files m).name with
       | false =>
        have hord:(decide (m=0) || Tr.bl (Ar.fa a.files (m - 1)).name (Ar.fa a.files m).name)=false:=by rw [decide_eq_false hm0,hbl1];rfl
        have hg:Hid (c=1):=HC1.out (by rw [HP.out true false _ hnm hord rfl];rfl);clear hnm HP HC1 CW hord;unfold Tr.bl at hbl1;generalize (Ar.fa a.files (m - 1)).name=f9 at *;generalize (Ar.fa a.files m).name=f0 at *;generalize (Ar.fa a.files m).dict=f1 at *;generalize (Ar.fa a.files m).size=f2 at *;generalize (Ar.fa a.files m).sum=f3 at *;generalize (Ar.fa a.files m).blk=f4 at *;go_wp2_with fail
        go_quiet ((go_at_call 37;exact Calls.quiet_of_same (CN.out _)))
        all_goals
         go_wp2_with fail
         go_ret
         exact HQ.out hg.out _ (BF.out _ _)
       | true =>
        have hord:(decide (m=0) || Tr.bl (Ar.fa a.files (m - 1)).name (Ar.fa a.files m).name)=true:=by rw [decide_eq_false hm0,hbl1];rfl
        unfold Tr.bl at hbl1;generalize (Ar.fa a.files (m - 1)).name=f9 at *
        cases hhas:Ar.has a.dicts (Ar.fa a.files m).dict with
        | false =>
         have hg:Hid (c=1):=HC1.out (by rw [HP.out true true false hnm hord (by unfold Ar.okf;rw [hhas];rfl)];rfl);rw [hhas] at CW;clear hnm HP HC1 hhas hord;generalize (Ar.fa a.files m).name=f0 at *;generalize (Ar.fa a.files m).dict=f1 at *;generalize (Ar.fa a.files m).size=f2 at *;generalize (Ar.fa a.files m).sum=f3 at *;generalize (Ar.fa a.files m).blk=f4 at *;go_wp2_with fail
         go_quiet (first | (go_at_call 37;exact Calls.quiet_of_same (CN.out _)) | (go_at_call 38;exact Calls.quiet_of_same (CW.out _)))
         all_goals
          go_wp2_with fail
          go_ret
          exact HQ.out hg.out _ (BF.out _ _)
        | true =>
         have CD:Hid (∀ w',Below w.heap.size w w'->Calls Tryz.prog 71 #[.agg #[.slice ad k cd,.slice (some ⟨b,off,none⟩) N cf],.int .i64 (Ar.fa a.files m).dict] w' fun e w3=>e=.returned (.string (Ar.dct a.dicts (Ar.fa a.files m).dict))/\Below w'.heap.size w' w3):=HD.out _ hhas;have CU:Hid (∀ w',Calls Tryz.prog 70 #[.string (Ar.dct a.dicts (Ar.fa a.files m).dict),.string (Ar.fa a.files m).blk] w' fun e w3=>ZaP (Ar.up a.dicts (Ar.fa a.files m)) w' e w3):=HUk.out m;have HO:Hid (∀ z,Ar.okf a.dicts (Ar.fa a.files m)=z->Ar.okAt a m=z):=fun z h9=>by rw [HP.out true true z hnm hord h9];rfl
         have HE:Hid (Ar.okf a.dicts (Ar.fa a.files m)=decide ((Ar.up a.dicts (Ar.fa a.files m)).2=0/\((Ar.up a.dicts (Ar.fa a.files m)).1.size:Int)=(Ar.fa a.files m).size/\Ar.sm (Ar.up a.dicts (Ar.fa a.files m)).1=(Ar.fa a.files m).sum)):=by show _=_;unfold Ar.okf;rw [hhas,Bool.true_and]
         have HZ:Hid ((Ar.up a.dicts (Ar.fa a.files m)).2=0->(Ar.up a.dicts (Ar.fa a.files m)).1.size<=512):=fun h9=>Bk.unp_size h9
         rw [hhas] at CW;have HGn:Hid (Ar.okAt a m=true->Ar.gdK a (m+1)=true):=fun h9=>by rw [Ar.gdK,HGm.out,h9];rfl
         clear hnm HP hhas hord;unfold ZaP at CU
         obtain ⟨U,hU⟩:∃ U,Ar.up a.dicts (Ar.fa a.files m)=U:=⟨_,rfl⟩
         simp only [hU] at CU HE HZ;obtain ⟨T,E⟩:=U;simp only at CU HE HZ;clear hU;generalize Ar.okf a.dicts (Ar.fa a.files m)=ok at *;generalize Ar.dct a.dicts (Ar.fa a.files m).dict=X at *;generalize (Ar.fa a.files m).name=f0 at *;generalize (Ar.fa a.files m).dict=f1 at *;generalize (Ar.fa a.files m).size=f2 at *;generalize (Ar.fa a.files m).sum=f3 at *;generalize (Ar.fa a.files m).blk=f4 at *;go_wp2_with fail
         go_quiet (first | (go_at_call 37;exact Calls.quiet_of_same (CN.out _)) | (go_at_call 38;exact Calls.quiet_of_same (CW.out _)))
         all_goals
          have hFs:wr.heap.size<(wr.alloc (.cells #[.string f0,.int .i64 f1,.int .i64 f2,.int .i64 f3,.string f4] 47 (0,0))).heap.size:=by simp
          have BA:Below wr.heap.size wr (wr.alloc (.cells #[.string f0,.int .i64 f1,.int .i64 f2,.int .i64 f3,.string f4] 47 (0,0))):=(bR _ _).alloc (nl _) _;have B9:=below_drewN (bR (wr.alloc (.cells #[.string f0,.int .i64 f1,.int .i64 f2,.int .i64 f3,.string f4] 47 (0,0))).heap.size (wr.alloc (.cells #[.string f0,.int .i64 f1,.int .i64 f2,.int .i64 f3,.string f4] 47 (0,0)))) nq;have hF:=fun i=>(B9.cell (p:=⟨wr.heap.size,i,none⟩) hFs).trans (cN wr #[.string f0,.int .i64 f1,.int .i64 f2,.int .i64 f3,.string f4] 47 i)
          have hFz:wr.heap.size<((wr.alloc (.cells #[.string f0,.int .i64 f1,.int .i64 f2,.int .i64 f3,.string f4] 47 (0,0))).drewN nq).heap.size:=nT hFs B9.size;have BA9:=bch BA B9 (nl _);clear BA B9 hFs;generalize (wr.alloc (.cells #[.string f0,.int .i64 f1,.int .i64 f2,.int .i64 f3,.string f4] 47 (0,0))).drewN nq=wF at *;have q0:=(BA9.cell (p:=⟨w.heap.size,0,none⟩) hz2).trans a0';have q1:=(BA9.cell (p:=⟨w.heap.size,1,none⟩) hz2).trans a1';have hzF:w.heap.size<wF.heap.size:=nT hz2 BA9.size;have k1:wF.cell? ⟨wr.heap.size,1,none⟩=some (.int .i64 f1):=hF 1;have k2:wF.cell? ⟨wr.heap.size,2,none⟩=some (.int .i64 f2):=hF 2;have k3:wF.cell? ⟨wr.heap.size,3,none⟩=some (.int .i64 f3):=hF 3;have k4:wF.cell? ⟨wr.heap.size,4,none⟩=some (.string f4):=hF 4;have B10:=bch B3 BA9 (nl _);have B11:=bch B2 BA9 (nl _)
          have HS:Hid (∀ w',Below wF.heap.size wF w'->Below wF.heap.size wF w'/\w'.cell? ⟨w.heap.size,0,none⟩=some (.slice ad k cd)/\w'.cell? ⟨w.heap.size,1,none⟩=some (.slice (some ⟨b,off,none⟩) N cf)/\w'.cell? ⟨wr.heap.size,1,none⟩=some (.int .i64 f1)/\w'.cell? ⟨wr.heap.size,4,none⟩=some (.string f4)):=fun w' h9 =>
           ⟨h9,(h9.cell (p:=⟨w.heap.size,0,none⟩) hzF).trans q0,(h9.cell (p:=⟨w.heap.size,1,none⟩) hzF).trans q1,(h9.cell (p:=⟨wr.heap.size,1,none⟩) hFz).trans k1,(h9.cell (p:=⟨wr.heap.size,4,none⟩) hFz).trans k4⟩
          have CD':Hid (∀ w',Below wF.heap.size wF w'->Calls Tryz.prog 71 #[.agg #[.slice ad k cd,.slice (some ⟨b,off,none⟩) N cf],.int .i64 f1] w' fun e w3=>e=.returned (.string X)/\Below w'.heap.size w' w3):=fun w' h9=>CD.out w' (bch B10 h9 (nl _))
          clear hF a0 a1 a0' a1' q0 q1 c0 c1 c2 c3 c4 CD CN CW BF HF HD HUk
          obtain ⟨Fb,hFb⟩:∃ Fb,wr.heap.size=Fb:=⟨_,rfl⟩
          rw [hFb] at HS k1 k2 k3 k4 hFz |-
          clear hFb;by_cases hE:E=0
          ·have CU':Hid (∀ w',Calls Tryz.prog 70 #[.string X,.string f4] w' fun e w2=>e=.returned (.tuple #[.string T,.bool true])/\Below w'.heap.size w' w2):=fun w'=>(CU.out w').mono (by
            rintro e w2 ⟨x,rfl,h1,_,G⟩
            exact ⟨by rw [h1 hE,decide_eq_true hE],G⟩)
           have hT:=HZ.out hE;have hT':(T.size:Int)<=512:=by omega
           have C6:Hid (∀ w',Calls Tryz.prog 72 #[.string T] w' fun e w2=>e=.returned (.int .i64 (Ar.sm T))/\w2=w'):=fun w'=>Zej T w' (by omega)
           have HE':Hid (ok=decide ((T.size:Int)=f2/\Ar.sm T=f3)):=by show _=_;rw [HE.out];simp [hE]
           clear CU HE HZ hE;generalize Ar.sm T=M at *;go_wp2_with fail
           go_region_held3 (fun w'=>Below wF.heap.size wF w'/\w'.cell? ⟨w.heap.size,0,none⟩=some (.slice ad k cd)/\w'.cell? ⟨w.heap.size,1,none⟩=some (.slice (some ⟨b,off,none⟩) N cf)/\w'.cell? ⟨Fb,1,none⟩=some (.int .i64 f1)/\w'.cell? ⟨Fb,4,none⟩=some (.string f4))
            (first | (exact HS.out _ ((bR _ _).drew)) | (exact HS.out _ (bch (And.left (by assumption)) G6 (nl _))) | (exact HS.out _ (bch (And.left (by assumption)) G5 (nl _))))
            (first
             | (go_at_call 71;refine (CD'.out _ ?_).mono ?_;exact And.left (by assumption);rintro e w5 ⟨rfl,G5⟩)
             | (go_at_call 70;refine (CU'.out _).mono ?_;rintro e w6 ⟨rfl,G6⟩))
           all_goals
            have B12:Below wF.heap.size wF w6:=bch (bch ((bR _ _).drew) G5 (nl _)) G6 (nl _);have n2:=(B12.cell (p:=⟨Fb,2,none⟩) hFz).trans k2;have n3:=(B12.cell (p:=⟨Fb,3,none⟩) hFz).trans k3;have B13:=bch B10 B12 (nl _);have B14:=bch B11 B12 (nl _)
            have B15:Hid (∀ n,Below w.heap.size w (w6.drewN n)/\Below w1.heap.size w1 (w6.drewN n)):=fun n=>⟨below_drewN B13 n,below_drewN B14 n⟩
            clear G5 G6 HS CD' CU' k1 k2 k3 k4 B10 B11 B12 B13 B14;by_cases h2:(T.size:Int)=f2
            ·by_cases h3:M=f3
             ·have hok:Hid (Ar.okAt a m=true):=HO.out true (by rw [HE'.out];exact zdT ⟨h2,h3⟩);have e3:(M == f3)=true:=by simpa using h3
              have e4:(M != f3)=false:=by simpa using h3
              have e5:((T.size:Int) == f2)=true:=by simpa using h2
              have e6:((T.size:Int) != f2)=false:=by simpa using h2
              subst h3 h2;clear HE' HO;go_wp2_with fail
              go_quiet ((go_at_call 72;exact Calls.quiet_of_same (C6.out _)))
              all_goals
               go_wp2_with fail
               go_roundw
               case rel=>exact ⟨m+1,by omega,by go_num,HGn.out hok.out,(B15.out _).2⟩
               case measure=>simp [intOf];omega
             ·have hok:Hid (c=1):=HC1.out (HO.out false (by rw [HE'.out];exact dF (fun h=>h3 h.2)));have e3:(M == f3)=false:=by simpa using h3
              have e4:(M != f3)=true:=by simpa using h3
              have e5:decide (M=f3)=false:=dF h3;subst h2;clear HE' HO h3;go_wp2_with fail
              go_quiet ((go_at_call 72;exact Calls.quiet_of_same (C6.out _)))
              all_goals
               go_wp2_with fail
               go_ret
               exact HQ.out hok.out _ (B15.out _).1
            ·have hok:Hid (c=1):=HC1.out (HO.out false (by rw [HE'.out];exact dF (fun h=>h2 h.1)));have e3:((T.size:Int) == f2)=false:=by simpa using h2
             have e4:((T.size:Int) != f2)=true:=by simpa using h2
             have e5:decide ((T.size:Int)=f2)=false:=dF h2;clear HE' HO h2 C6;go_wp2_with fail
             go_quiet (fail)
             all_goals
              go_wp2_with fail
              go_ret
              exact HQ.out hok.out _ (B15.out _).1
          ·have CU':Hid (∀ w',Calls Tryz.prog 70 #[.string X,.string f4] w' fun e w2=>∃ x,e=.returned (.tuple #[.string x,.bool false])/\Below w'.heap.size w' w2):=fun w'=>(CU.out w').mono (by
            rintro e w2 ⟨x,rfl,_,_,G⟩
            exact ⟨x,by rw [decide_eq_false hE],G⟩)
           have hok:Hid (c=1):=HC1.out (HO.out false (by rw [HE.out];exact dF (fun h=>hE h.1)));clear CU HE HZ hE HO;go_wp2_with fail
           go_region_held3 (fun w'=>Below wF.heap.size wF w'/\w'.cell? ⟨w.heap.size,0,none⟩=some (.slice ad k cd)/\w'.cell? ⟨w.heap.size,1,none⟩=some (.slice (some ⟨b,off,none⟩) N cf)/\w'.cell? ⟨Fb,1,none⟩=some (.int .i64 f1)/\w'.cell? ⟨Fb,4,none⟩=some (.string f4))
            (first | (exact HS.out _ ((bR _ _).drew)) | (exact HS.out _ (bch (And.left (by assumption)) G6 (nl _))) | (exact HS.out _ (bch (And.left (by assumption)) G5 (nl _))))
            (first
             | (go_at_call 71;refine (CD'.out _ ?_).mono ?_;exact And.left (by assumption);rintro e w5 ⟨rfl,G5⟩)
             | (go_at_call 70;refine (CU'.out _).mono ?_;rintro e w6 ⟨x,rfl,G6⟩))
           all_goals
            have B13:=bch B10 (bch (bch ((bR _ _).drew) G5 (nl _)) G6 (nl _)) (nl _);have B15:Hid (∀ n,Below w.heap.size w (w6.drewN n)):=fun n=>below_drewN B13 n
            clear G5 G6 HS CD' CU' k1 k2 k3 k4 B10 B11 B13;go_wp2_with fail
            go_quiet (fail)
            all_goals
             go_wp2_with fail
             go_ret
             exact HQ.out hok.out _ (B15.out _)
    ·obtain rfl:m=N:=by omega
     have d2:decide ((m:Int)<(m:Int))=false:=by simp
     have HR:Hid (c=0):=HGk.out HGm.out;go_wp2_with fail
     go_ret
     exact ⟨congrArg (fun x=>Ending.returned (Value.int .i64 x)) HR.out.symm,B3⟩
theorem Zr (ad af:Option Addr) (cd cf:Nat) (a:Ar.A) (w:World) (h:ArV w ad af a) (hs:SaneA a) :
 Calls Tryz.prog 36 #[av ad cd af cf a] w fun e w'=>e=.returned (.int .i64 (Ar.chk a))/\Below w.heap.size w w':=by
 by_cases hm:4<a.dicts.length\/12<a.files.length
 ·have e:Ar.chk a=2:=by
   have:Ar.many a=true:=by unfold Ar.many;rw [decide_eq_true hm];rfl
   unfold Ar.chk;rw [if_pos this]
  rw [e];exact Zft ad af cd cf a w hs.nd hs.nf hm
 ·exact ZeN ad af cd cf a w h hs (by omega) (by omega)
theorem ZmL (ad af:Option Addr) (cd cf:Nat) (a:Ar.A) (name text:ByteArray) (dict:Int) (w:World) (h:ArV w ad af a) (hs:SaneA a) (hc:Ar.chk a ≠ 0) :
 Calls Tryz.prog 15 #[av ad cd af cf a,.string name,.string text,.int .i64 dict] w fun e w'=>ArSaid w Ar.az (Ar.chk a) e w':=by
 have C1:Hid (∀ w',Below w.heap.size w w'->Calls Tryz.prog 36 #[av ad cd af cf a] w' fun e w2=>e=.returned (.int .i64 (Ar.chk a))/\Below w'.heap.size w' w2):=fun w' h9=>Zr ad af cd cf a w' (h.below h9) hs
 have hQ:Hid (∀ w',Below w.heap.size w w'->ArSaid w Ar.az (Ar.chk a) (.returned (.tuple #[.agg #[.slice none 0 0,.slice none 0 0],.int .i64 (Ar.chk a)])) w'):=fun w' h9=>Zx h9
 generalize ArSaid w Ar.az (Ar.chk a)=Q at *;unfold av at C1 |-
 generalize Ar.chk a=E at *;have e1:(E != 0)=true:=by simpa using hc
 have e2:(E == 0)=false:=by simpa using hc
 clear hc;generalize a.dicts.length=D at *;generalize a.files.length=N at *;clear h hs;go_enter Tryz.func15,Tryz.ntmps15
 go_wp2_with fail
 refine (C1.out _ (Fr.start w _ _).b).mono ?_;rintro e w1 ⟨rfl,G1⟩;have F1:=(Fr.start w _ _).next G1;clear G1;obtain ⟨b,a0,a1,r0,r1,z0,z1,hz⟩:=id F1;go_wp2_with fail
 rw [F1.zero];exact bodyPost_ret (v:=.tuple #[.agg #[.slice none 0 0,.slice none 0 0],.int .i64 E]) (by simp [results,Tryz.results15,go_sem,F1.r0,F1.r1]) rfl (hQ.out _ F1.b)
theorem ZoF (ad af:Option Addr) (cd cf:Nat) (a:Ar.A) (name text:ByteArray) (dict:Int) (w:World) (h:ArV w ad af a) (hs:SaneA a) (hn:name.size<=140737488355328) (hc:Ar.chk a=0) (hm:Ar.isNm name=false) :
 Calls Tryz.prog 15 #[av ad cd af cf a,.string name,.string text,.int .i64 dict] w fun e w'=>ArSaid w Ar.az 4 e w':=by
 have C1:Hid (∀ w',Below w.heap.size w w'->Calls Tryz.prog 36 #[av ad cd af cf a] w' fun e w2=>e=.returned (.int .i64 (Ar.chk a))/\Below w'.heap.size w' w2):=fun w' h9=>Zr ad af cd cf a w' (h.below h9) hs
 have C2:Hid (∀ w',Calls Tryz.prog 37 #[.string name] w' fun e w2=>e=.returned (.bool (Ar.isNm name))/\w2=w'):=fun w'=>ZaA name w' hn
 have hQ:Hid (∀ w',Below w.heap.size w w'->ArSaid w Ar.az 4 (.returned (.tuple #[.agg #[.slice none 0 0,.slice none 0 0],.int .i64 4])) w'):=fun w' h9=>Zx h9
 generalize ArSaid w Ar.az 4=Q at *;rw [hc] at C1;rw [hm] at C2;clear hc hm hn;unfold av at C1 |-
 generalize a.dicts.length=D at *;generalize a.files.length=N at *;clear h hs;go_enter Tryz.func15,Tryz.ntmps15
 go_wp2_with fail
 refine (C1.out _ (Fr.start w _ _).b).mono ?_;rintro e w1 ⟨rfl,G1⟩;have F1:=(Fr.start w _ _).next G1;clear G1;obtain ⟨b,a0,a1,r0,r1,z0,z1,hz⟩:=id F1;go_wp2_with fail
 refine (C2.out _).mono ?_;rintro e w2 ⟨rfl,rfl⟩;go_wp2_with fail
 rw [F1.zero];exact bodyPost_ret (v:=.tuple #[.agg #[.slice none 0 0,.slice none 0 0],.int .i64 4]) (by simp [results,Tryz.results15,go_sem,F1.r0,F1.r1]) rfl (hQ.out _ F1.b)
theorem Zlf (ad af:Option Addr) (cd cf:Nat) (a:Ar.A) (name text:ByteArray) (dict:Int) (w:World) (h:ArV w ad af a) (hs:SaneA a) (hn:name.size<=140737488355328) (hc:Ar.chk a=0) (hm:Ar.isNm name=true) (hd:Ar.has a.dicts dict=false) :
 Calls Tryz.prog 15 #[av ad cd af cf a,.string name,.string text,.int .i64 dict] w fun e w'=>ArSaid w Ar.az 3 e w':=by
 have C1:Hid (∀ w',Below w.heap.size w w'->Calls Tryz.prog 36 #[av ad cd af cf a] w' fun e w2=>e=.returned (.int .i64 (Ar.chk a))/\Below w'.heap.size w' w2):=fun w' h9=>Zr ad af cd cf a w' (h.below h9) hs
 have C2:Hid (∀ w',Calls Tryz.prog 37 #[.string name] w' fun e w2=>e=.returned (.bool (Ar.isNm name))/\w2=w'):=fun w'=>ZaA name w' hn
 have C3:Hid (∀ w',Calls Tryz.prog 38 #[.int .i64 dict,.int .i64 0,.int .i64 (a.dicts.length:Nat)] w' fun e w2=>e=.returned (.bool (Ar.has a.dicts dict))/\w2=w'):=fun w'=>ZS dict 0 (a.dicts.length:Nat) w'
 have hQ:Hid (∀ w',Below w.heap.size w w'->ArSaid w Ar.az 3 (.returned (.tuple #[.agg #[.slice none 0 0,.slice none 0 0],.int .i64 3])) w'):=fun w' h9=>Zx h9
 generalize ArSaid w Ar.az 3=Q at *;rw [hc] at C1;rw [hm] at C2;rw [hd] at C3;clear hc hm hn hd;unfold av at C1 |-
 generalize a.dicts.length=D at *;generalize a.files.length=N at *;clear h hs;go_enter Tryz.func15,Tryz.ntmps15
 go_wp2_with fail
 refine (C1.out _ (Fr.start w _ _).b).mono ?_;rintro e w1 ⟨rfl,G1⟩;have F1:=(Fr.start w _ _).next G1;clear G1;obtain ⟨b,a0,a1,r0,r1,z0,z1,hz⟩:=id F1;go_wp2_with fail
 refine (C2.out _).mono ?_;rintro e w2 ⟨rfl,rfl⟩;go_wp2_with fail
 refine (C3.out _).mono ?_;rintro e w3 ⟨rfl,rfl⟩;go_wp2_with fail
 rw [F1.zero];exact bodyPost_ret (v:=.tuple #[.agg #[.slice none 0 0,.slice none 0 0],.int .i64 3]) (by simp [results,Tryz.results15,go_sem,F1.r0,F1.r1]) rfl (hQ.out _ F1.b)
theorem Zkq (ad af:Option Addr) (cd cf:Nat) (a:Ar.A) (name text:ByteArray) (dict:Int) (w:World) (h:ArV w ad af a) (hs:SaneA a) (hn:name.size<=140737488355328) (hc:Ar.chk a=0) (hm:Ar.isNm name=true) (hd:Ar.has a.dicts dict=true) (hl:512<text.size) :
 Calls Tryz.prog 15 #[av ad cd af cf a,.string name,.string text,.int .i64 dict] w fun e w'=>ArSaid w Ar.az 2 e w':=by
 have C1:Hid (∀ w',Below w.heap.size w w'->Calls Tryz.prog 36 #[av ad cd af cf a] w' fun e w2=>e=.returned (.int .i64 (Ar.chk a))/\Below w'.heap.size w' w2):=fun w' h9=>Zr ad af cd cf a w' (h.below h9) hs
 have C2:Hid (∀ w',Calls Tryz.prog 37 #[.string name] w' fun e w2=>e=.returned (.bool (Ar.isNm name))/\w2=w'):=fun w'=>ZaA name w' hn
 have C3:Hid (∀ w',Calls Tryz.prog 38 #[.int .i64 dict,.int .i64 0,.int .i64 (a.dicts.length:Nat)] w' fun e w2=>e=.returned (.bool (Ar.has a.dicts dict))/\w2=w'):=fun w'=>ZS dict 0 (a.dicts.length:Nat) w'
 have hQ:Hid (∀ w',Below w.heap.size w w'->ArSaid w Ar.az 2 (.returned (.tuple #[.agg #[.slice none 0 0,.slice none 0 0],.int .i64 2])) w'):=fun w' h9=>Zx h9
 generalize ArSaid w Ar.az 2=Q at *;rw [hc] at C1;rw [hm] at C2;rw [hd] at C3;have d1:decide ((512:Int)<(text.size:Int))=true:=zdT (by omega);have d1':decide (512<text.size)=true:=zdT hl;clear hc hm hn hd;unfold av at C1 |-
 generalize a.dicts.length=D at *;generalize a.files.length=N at *;clear h hs;go_enter Tryz.func15,Tryz.ntmps15
 go_wp2_with fail
 refine (C1.out _ (Fr.start w _ _).b).mono ?_;rintro e w1 ⟨rfl,G1⟩;have F1:=(Fr.start w _ _).next G1;clear G1;obtain ⟨b,a0,a1,r0,r1,z0,z1,hz⟩:=id F1;go_wp2_with fail
 refine (C2.out _).mono ?_;rintro e w2 ⟨rfl,rfl⟩;go_wp2_with fail
 refine (C3.out _).mono ?_;rintro e w3 ⟨rfl,rfl⟩;go_wp2_with fail
 rw [F1.zero];exact bodyPost_ret (v:=.tuple #[.agg #[.slice none 0 0,.slice none 0 0],.int .i64 2]) (by simp [results,Tryz.results15,go_sem,F1.r0,F1.r1]) rfl (hQ.out _ F1.b)
end Go.Proofs.YtbjbjbpgmojcbacGreat
