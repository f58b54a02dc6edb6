/- A part of the proof: what it leans on. -/
import Derived.Deep.RegionLaw
import Derived.BigQuiet
import Derived.Test.YtbjbjbpgmojcbabGreatLsBook01
import Derived.Test.YtbjbjbpgmojcbabGreatLsBook02
import Derived.Test.YtbjbjbpgmojcbabGreatLsBook12
import Derived.Test.YtbjbjbpgmojcbabGreatLsBook13
import Derived.Test.YtbjbjbpgmojcbabGreatLsBook14
import Derived.Test.YtbjbjbpgmojcbabGreatLsBook15
import Derived.Test.YtbjbjbpgmojcbabGreatLsBook18
import Derived.Test.YtbjbjbpgmojcbabGreatLsBook19
set_option maxRecDepth 8000
set_option maxHeartbeats 8000000
namespace Go.Proofs.YtbjbjbpgmojcbabGreat
open Go.RowKit
theorem ZfW (ad af:Option Addr) (cd cf:Nat) (a:Ar.A) (w:World) (h:ArV w ad af a) (hs:SaneA a) (hc:Ar.chk a ≠ 0) :
 Calls Tryz.prog 29 #[av ad cd af cf a] w fun e w'=>ArSaid w Ar.az (Ar.chk a) e w':=by
 have C1:Hid (∀ w',Below w.heap.size w w'->Calls Tryz.prog 19 #[av ad cd af cf a] w' fun e w2=>e=.returned (.int .i64 (Ar.chk a))/\Below w'.heap.size w' w2):=fun w' h9=>Zs ad af cd cf a w' (h.below h9) hs
 have hQ:Hid (∀ w',Below w.heap.size w w'->ArSaid w Ar.az (Ar.chk a) (.returned (.tuple #[.agg #[.slice none 0 0,.slice none 0 0],.int .i64 (Ar.chk a)])) w'):=fun w' h9=>Zy h9
 generalize ArSaid w Ar.az (Ar.chk a)=Q at *;unfold av at C1 |-
 generalize Ar.chk a=E at *;have e1:(E != 0)=true:=by simpa using hc
 have e2:(E == 0)=false:=by simpa using hc
 generalize a.dicts.length=D at *;generalize a.files.length=N at *;clear h hs hc;go_enter Tryz.func29,Tryz.ntmps29
 go_wp2_with fail
 refine (C1.out _ (Fr.start w _ _).b).mono ?_;rintro e w1 ⟨rfl,G1⟩;have F1:=(Fr.start w _ _).next G1;clear G1;obtain ⟨b,a0,a1,r0,r1,z0,z1,hz⟩:=id F1;go_wp2_with fail
 rw [F1.zero];exact bodyPost_ret (v:=.tuple #[.agg #[.slice none 0 0,.slice none 0 0],.int .i64 E]) (by simp [results,Tryz.results29,go_sem,F1.r0,F1.r1]) rfl (hQ.out _ F1.b)
theorem ZgH (ad af:Option Addr) (cd cf:Nat) (a:Ar.A) (w:World) (h:ArV w ad af a) (hs:SaneA a) (hc:Ar.chk a=0) :
 Calls Tryz.prog 29 #[av ad cd af cf a] w fun e w'=>ArSaid w ⟨Ar.cpD a a.dicts.length,a.files.map (Ar.cpF a a.dicts.length)⟩ 0 e w':=by
 obtain ⟨i0,hi,hz0,hz1,hz2⟩:=info_parts (P:=Tryz.prog) (e:=9) (z:=.string ⟨#[]⟩) (size:=1) (bytes:=16) (by kernel_rfl);obtain ⟨j0,gi,gz0,gz1,gz2⟩:=info_parts (P:=Tryz.prog) (e:=46) (z:=.agg #[.string ⟨#[]⟩,.int .i64 0,.int .i64 0,.int .i64 0,.string ⟨#[]⟩]) (size:=5) (bytes:=56) (by kernel_rfl);obtain ⟨m1,m2,m3⟩:=Ar.Zw.1 (Ar.Zd.1 hc).1;have C1:Hid (∀ w',Below w.heap.size w w'->Calls Tryz.prog 19 #[av ad cd af cf a] w' fun e w2=>e=.returned (.int .i64 (Ar.chk a))/\Below w'.heap.size w' w2):=fun w' h9=>Zs ad af cd cf a w' (h.below h9) hs
 have HX:Hid (∀ w',Below w.heap.size w w'->∀ k,k<a.dicts.length->∃ b off,ad=some ⟨b,off,none⟩/\b<w'.heap.size/\w'.cell? ⟨b,off+k,none⟩=some (.string (Tr.xa a.dicts k))):=fun w' hb k hk=>(h.ds.below hb).at hk
 have HFl:Hid (∀ w',Below w.heap.size w w'->∀ k,k<a.files.length->∃ b off,af=some ⟨b,off,none⟩/\b<w'.heap.size/\w'.cell? ⟨b,off+k*5+1,none⟩=some (.int .i64 (Ar.fa a.files k).dict)):=fun w' h9 k hk=>by
  obtain ⟨b,off,h1,h2,h3⟩:=(h.fs.below h9).at hk;exact ⟨b,off,h1,h2,h3.c1⟩
 have HFn:Hid (∀ w',Below w.heap.size w w'->(a.files.length=0\/∃ b,af=some b/\∀ j u,(fcs a.files)[j]?=some u->w'.cell? (b.add j)=some u)):=fun w' h9=>(h.fs.below h9).news
 have HF1:Hid ((fcs a.files).length=a.files.length*5):=Zai _;have HF2:Hid (∀ u ∈ fcs a.files,u.oneCell'=true):=ZeG _;rw [hc] at C1;unfold av at C1 |-
 obtain ⟨D,hD⟩:∃ D,a.dicts.length=D:=⟨_,rfl⟩
 obtain ⟨N,hN⟩:∃ N,a.files.length=N:=⟨_,rfl⟩
 have HNN:Hid (a.files.length=N):=hN;rw [hD] at C1 HX m1 |-
 rw [hN] at C1 HFl HFn HF1 m2 |-
 have hQ:Hid (∀ v1 v2 w',w'.ownsRow w.heap.size 9 1 v1 (Ar.cpD a D).length ((Ar.cpD a D).map Value.string)->w'.ownsRow w.heap.size 46 5 v2 N (fcs (a.files.map (Ar.cpF a D)))->(∀ j,v1.ownBlock=some j->v2.ownBlock ≠ some j)->Below w.heap.size w w'->ArSaid w ⟨Ar.cpD a D,a.files.map (Ar.cpF a D)⟩ 0 (.returned (.tuple #[.agg #[v1,v2],.int .i64 0])) w'):=fun v1 v2 w' k1 k2 k3 k4=>⟨v1,v2,rfl,⟨k1,by show w'.ownsRow _ _ _ _ (a.files.map (Ar.cpF a D)).length _;rw [List.length_map,hN];exact k2,k3⟩,k4⟩
 generalize ArSaid w ⟨Ar.cpD a D,a.files.map (Ar.cpF a D)⟩ 0=Q at *;have HI0:Hid (∀ k,fcs (a.files.map (Ar.cpF a k))=fcs (Ar.cpI a k 0)):=fun k=>by rw [Ar.Zjs]
 have HIN:Hid (∀ k,fcs (Ar.cpI a k N)=fcs (a.files.map (Ar.cpF a (k+1)))):=fun k=>by rw [<-hN,Ar.ZmX]
 have H0:Hid (fcs (a.files.map (Ar.cpF a 0))=fcs a.files):=by show _=_;rw [ZpQ]
 clear h hs hc m3 hD hN;have hDi:(D:Int)<=4:=by omega
 have hNi:(N:Int)<=12:=by omega
 generalize hFS:fcs a.files=FS at *;clear hFS;go_enter Tryz.func29,Tryz.ntmps29
 go_wp2_with fail
 refine (C1.out _ (Fr.start w _ _).b).mono ?_;rintro e w3 ⟨rfl,G1⟩;have F1:=(Fr.start w _ _).next G1;clear G1 C1;obtain ⟨b,a0,a1,r0,r1,z0,z1,hz⟩:=id F1;have hz9:w.heap.size<w3.heap.size:=by omega
 have O0:=Zdb w3 w3.heap.size 46 5 (nl _);have hD2:=HFn.out _ (F1.b.alloc (by have:=F1.b.size;omega) (.cells #[] 46 (0,0)));have hds1:=HF1.out;have hds2:=HF2.out
 go_wp2_with (first
  | (at_builtin;refine Zad rfl _ _ 23 rfl w3.heap.size 46 j0 (.agg #[.string ⟨#[]⟩,.int .i64 0,.int .i64 0,.int .i64 0,.string ⟨#[]⟩]) 5 56 Tryz.underlying23 gi gz0 gz1 gz2 rfl (by decide) w3.heap.size 0 0 [] rfl O0 af N cf FS rfl hds1 hD2 hds2 (by unfold maxLen;omega) (by omega) (by simp) _ rfl ?_;intro g2 cp2 w5 hown5 hgrow5 hat5)
  | fail)
 have BX:Below w3.heap.size w3 w5:=((Below.refl _ _).alloc (Nat.le_refl _) _).grown hgrow5 (by simp) (fun j hj=>by simp at hj;omega);simp only [Nat.zero_add,List.nil_append] at hown5 |-
 have S0:=CpS.new2 BX BX.size hown5;clear O0 hD2 hds1 hds2 hgrow5 hat5 hown5 HFn HF1 HF2 BX a0 a1 r0 r1 z0 z1 b;generalize (w5.alloc (.cells #[.slice none 0 0,.slice (some ⟨g2,0,none⟩) N cp2] 25 (0,0)))=w6 at *;generalize w5.heap.size=C at *;go_loopw [6] (fun i wr=>∃ (k:Nat) (v1:Value),k<=D/\i=.int .i64 ((k:Int)+1)/\CpS w3 wr C w3.heap.size v1 (.slice (some ⟨g2,0,none⟩) N cp2) (Ar.cpD a k).length N ((Ar.cpD a k).map Value.string) (fcs (a.files.map (Ar.cpF a k)))) (fun i _=>D+1 - (intOf i).toNat)
 case atStart=>exact ⟨0,_,by omega,rfl,by rw [H0.out];exact S0⟩
 case round =>
  clear S0;obtain ⟨k,v1,hk2,rfl,S1⟩:=hrel;have F7:=F1.keep S1.bel hz;obtain ⟨B7,a0,a1,r0,r1,z0,z1,hz7⟩:=id F7;by_cases hlt:k<D
  ·have d1:decide ((k:Int)+1<=(D:Int))=true:=zdT (by omega);have hki:(k:Int)+1<=(D:Int):=by omega
   have hkD:(k:Int)<(D:Int):=by omega
   have hwk2:IntKind.i64.wrap (k:Int)=(k:Int):=IntWalk.i64_in _ ⟨by omega,by omega⟩;have hwk:IntKind.i64.wrap ((k:Int)+1 - 1)=(k:Int):=by rw [show (k:Int)+1 - 1=(k:Int) by omega];exact IntWalk.i64_in _ ⟨by omega,by omega⟩
   obtain ⟨b9,off,rfl,hbl,hc⟩:=HX.out wr B7 k hlt;generalize hX:Tr.xa a.dicts k=X at *;have HXX:Hid (Tr.xa a.dicts k=X):=hX;clear hX;have HAk:Hid (∀ m,Ar.anyK a.files ((k:Int)+1) (m+1)=(Ar.anyK a.files ((k:Int)+1) m || decide ((Ar.fa a.files m).dict=(k:Int)+1))):=fun m=>rfl
   have HA0:Hid (Ar.anyK a.files ((k:Int)+1) 0=false):=rfl;have HAN:Hid (Ar.anyK a.files ((k:Int)+1) N=Ar.used a ((k+1:Nat):Int)):=by show _=_;rw [<-HNN.out];exact Zng
   generalize Ar.anyK a.files ((k:Int)+1)=ak at *;go_wp2_with fail
   generalize hwr:wr=wk at *;clear hwr;go_loopw [7,8] (fun u i w'=>∃ m:Nat,m<=N/\u=.bool (ak m)/\i=.int .i64 m/\w'=wk) (fun _ i _=>N - (intOf i).toNat)
   case atStart=>exact ⟨0,by omega,by rw [HA0.out],rfl,rfl⟩
   case round =>
    obtain ⟨m,hm2,rfl,rfl,hwr⟩:=hrel;have hwr:=hwr.symm;subst hwr;by_cases hlm:m<N
    ·have d2:decide ((m:Int)<(N:Int))=true:=zdT (by omega);have d2':decide (m<N)=true:=zdT hlm;have hmi:(m:Int)<(N:Int):=by omega
     obtain ⟨bf,of,rfl,hbf,c1⟩:=HFl.out _ B7 m hlm;have HAm:=Zak (HAk.out m);generalize (Ar.fa a.files m).dict=f1 at *
     cases hu:ak m with
     | true =>
      have HN:Hid (ak (m+1)=true):=by show _=_;rw [HAm.out,hu];rfl
      clear hu HAm;go_wp2_with fail
      go_roundw
      case rel=>exact ⟨m+1,by omega,by rw [HN.out],by go_num,by trivial⟩
      case measure=>simp [intOf];omega
     | false =>
      by_cases hdx:f1=(k:Int)+1
      ·have HN:Hid (ak (m+1)=true):=by show _=_;rw [HAm.out,hu,zdT hdx];rfl
       subst hdx;clear hu HAm;go_wp2_with fail
       go_roundw
       case rel=>exact ⟨m+1,by omega,by rw [HN.out],by go_num,by trivial⟩
       case measure=>simp [intOf];omega
      ·have HN:Hid (ak (m+1)=false):=by show _=_;rw [HAm.out,hu,dF hdx];rfl
       have e1:(f1 == ((k:Int)+1))=false:=by simpa using hdx
       clear hu HAm;go_wp2_with fail
       go_roundw
       case rel=>exact ⟨m+1,by omega,by rw [HN.out],by go_num,by trivial⟩
       case measure=>simp [intOf];omega
    ·obtain rfl:m=N:=by omega
     have d2:decide ((m:Int)<(m:Int))=false:=by simp
     have hak:=HAN.out;rw [hak];clear hak HAk HA0 HAN
     cases hu:Ar.used a ((k+1:Nat):Int) with
     | false =>
      obtain ⟨e1,e2⟩:=Ar.ZnJ hu;have HE1:Hid (Ar.cpD a (k+1)=Ar.cpD a k):=e1;have HE2:Hid (a.files.map (Ar.cpF a (k+1))=a.files.map (Ar.cpF a k)):=e2;clear e1 e2 hu;go_wp2_with fail
      go_roundw
      case rel=>exact ⟨k+1,v1,by omega,by go_num,by rw [HE1.out,HE2.out];exact S1⟩
      case measure=>simp [intOf];omega
     | true =>
      have HE1:Hid (Ar.cpD a (k+1)=Ar.cpD a k++[X]):=by show _=_;rw [Ar.Zot hu,HXX.out]
      clear hu
      obtain ⟨L,hL⟩:∃ L,(Ar.cpD a k).length=L:=⟨_,rfl⟩
      have hL4:L<=4:=by
       have e1:=Ar.Zcn a k;have e2:=Ar.ZjZ a k;omega
      have HL1:Hid ((Ar.cpD a (k+1)).length=L+1):=by show _=_;rw [HE1.out,List.length_append,hL];rfl
      have HM1:Hid ((Ar.cpD a (k+1)).map Value.string=(Ar.cpD a k).map Value.string++[.string X]):=by show _=_;rw [HE1.out,List.map_append];rfl
      have HY:Hid (∀ q,q<m->(Ar.fa a.files q).dict=(k:Int)+1->fcs (Ar.cpI a k (q+1))=fcs ((Ar.cpI a k q).take q++{ Ar.fa (Ar.cpI a k q) q with dict:=(L:Int)+1 } :: (Ar.cpI a k q).drop (q+1))):=fun q h1 h2=>by
       have e:((Ar.rkK a (k+1):Nat):Int)=(L:Int)+1:=by rw [<-Ar.Zcn,HL1.out];rfl
       rw [Ar.ZmM (by rw [HNN.out];exact h1) h2,e]
      have HNo:Hid (∀ q,q<m->(Ar.fa a.files q).dict ≠ (k:Int)+1->fcs (Ar.cpI a k (q+1))=fcs (Ar.cpI a k q)):=fun q h1 h2=>by rw [Ar.ZrB (by rw [HNN.out];exact h1) h2]
      have HIl:Hid (∀ q,q<m->(Ar.cpI a k q).length=m):=fun q h1=>by rw [Ar.ZnT (by rw [HNN.out];omega),HNN.out]
      have HINk:Hid (fcs (Ar.cpI a k m)=fcs (a.files.map (Ar.cpF a (k+1)))):=HIN.out k;rw [hL,HI0.out] at S1;clear hL HE1 HXX;have c0S:=S1.c0;have f0S:=S1.f0;have hbC:=S1.hb;have hlC:=S1.hC;have hLi:(L:Int)<=4:=by omega
      generalize (Ar.cpD a k).map Value.string=XS at *;obtain ⟨p1,q1,rfl,_⟩:=Zl S1.o1;have S9:=S1.below ((bR _ _).drew);go_wp2_with fail
      go_region_law (first
       | (refine step_append_lies _ rfl _ _ 22 rfl w3.heap.size 9 i0 (.string ⟨#[]⟩) 1 16 Tryz.underlying22 hi hz0 hz1 hz2 rfl (by decide) _ _ _ rfl (S9.o1.alloc _) ⟨wk.drew.heap.size,0,none⟩ 1 1 [.string X] rfl rfl (cell_one_new _ _ _) (by simp [Value.oneCell']) (by decide) (by unfold maxLen;omega) (by omega) (by simp;omega) _ rfl ?_;intro g cp t5 hown5 hgrow5 hat5 hlt5;obtain ⟨⟨⟨qq1,qq2⟩,S5⟩,_⟩:=S9.put1 hgrow5 hown5 hat5;clear hgrow5 hown5 hat5 hlt5))
      all_goals
       clear S1 S9 c0S f0S hbC hlC qq1 qq2 a0 a1 r0 r1 z0 z1 F7 hz7 hc hbl B7;generalize (t5.setCell ⟨C,0,none⟩ (.slice (some ⟨g,0,none⟩) (L+1) cp))=wq at *;have Fq:=F1.keep S5.bel hz;have a1:=Fq.a1;clear Fq;go_wp2_with fail
       clear a1;go_loopw [9] (fun i w'=>∃ q:Nat,q<=m/\i=.int .i64 q/\CpS w3 w' C w3.heap.size (.slice (some ⟨g,0,none⟩) (L+1) cp) (.slice (some ⟨g2,0,none⟩) m cp2) (L+1) m (XS++[.string X]) (fcs (Ar.cpI a k q))) (fun i _=>m - (intOf i).toNat)
       case atStart=>exact ⟨0,by omega,rfl,S5⟩
       case round =>
        clear S5;obtain ⟨q,hq2,rfl,S6⟩:=hrel;have F8:=F1.keep S6.bel hz;obtain ⟨B8,a0,a1,r0,r1,z0,z1,hz8⟩:=id F8;by_cases hlq:q<m
        ·have d3:decide ((q:Int)<(m:Int))=true:=zdT (by omega);have d3':decide (q<m)=true:=zdT hlq;have hqi:(q:Int)<(m:Int):=by omega
         obtain ⟨bf,of,rfl,hbf,c1⟩:=HFl.out _ B8 q hlq;have hIl:=HIl.out q hlq;by_cases hd:(Ar.fa a.files q).dict=(k:Int)+1
         ·have HE:=Zak (HY.out q hlq hd);rw [<-hIl] at S6;obtain ⟨S8,t1,t2⟩:=CpS.set1 ((L:Int)+1) S6 (i:=q) (by omega);have c0:=S6.c0;have c1':=S6.c1;rw [hIl] at c1' S8;have e1:((Ar.fa a.files q).dict == ((k:Int)+1))=true:=by simpa using hd
          generalize (Ar.fa a.files q).dict=f1 at *;subst hd;clear S6 hIl;go_wp2_with fail
          go_roundw
          case rel=>exact ⟨q+1,by omega,by go_num,by rw [HE.out];exact S8⟩
          case measure=>simp [intOf];omega
         ·have HE:=Zak (HNo.out q hlq hd);have e1:((Ar.fa a.files q).dict == ((k:Int)+1))=false:=by simpa using hd
          generalize (Ar.fa a.files q).dict=f1 at *;clear hIl;go_wp2_with fail
          go_roundw
          case rel=>exact ⟨q+1,by omega,by go_num,by rw [HE.out];exact S6⟩
          case measure=>simp [intOf];omega
        ·obtain rfl:q=m:=by omega
         have d3:decide ((q:Int)<(q:Int))=false:=by simp
         rw [HINk.out,<-HM1.out,<-HL1.out] at S6;go_wp2_with fail
         go_roundw
         case rel=>exact ⟨k+1,_,by omega,by go_num,S6⟩
         case measure=>simp [intOf];omega
  ·obtain rfl:k=D:=by omega
   have d1:decide ((k:Int)+1<=(k:Int))=false:=dF (by omega);obtain ⟨Bz,Oz1,Oz2,Rz0,Rz1⟩:=Zbb F7.b S1.o1 S1.o2 hz F7.r0 F7.r1;have hfin:=hQ.out _ _ _ Oz1 Oz2 S1.ne Bz;obtain ⟨pp,qq,rfl,_⟩:=Zl S1.o1;have c0:=S1.c0;have c1:=S1.c1;have hC2:=S1.hb;clear S1 Oz1 Oz2 Bz hQ;go_wp2_with fail
   generalize (wr.setCell ⟨w.heap.size+1,0,none⟩ (.slice pp (Ar.cpD a k).length qq)).setCell ⟨w.heap.size+1,1,none⟩ (.slice (some ⟨g2,0,none⟩) N cp2)=wz at *;exact bodyPost_ret (v:=.tuple #[.agg #[.slice pp (Ar.cpD a k).length qq,.slice (some ⟨g2,0,none⟩) N cp2],.int .i64 0]) (by simp [results,Tryz.results29,go_sem,Rz0,Rz1]) rfl hfin
theorem ZfY (ad af:Option Addr) (cd cf:Nat) (a:Ar.A) (w:World) (h:ArV w ad af a) (hs:SaneA a) :
 Calls Tryz.prog 29 #[av ad cd af cf a] w fun e w'=>ArSaid w (Ar.cmpA a) (Ar.chk a) e w':=by
 by_cases hc:Ar.chk a=0
 ·rw [Ar.Zma hc,hc];exact ZgH ad af cd cf a w h hs hc
 ·have e:Ar.cmpA a=Ar.az:=by unfold Ar.cmpA;rw [if_neg hc]
  rw [e];exact ZfW ad af cd cf a w h hs hc
theorem ZaB (w:World) (x y:Value) (o:Obj):Below w.heap.size w (((w.alloc (.cells #[x,y] 25 (0,0))).alloc o).alloc (.cells #[.slice none 0 0,.slice none 0 0] 25 (0,0)))/\Bx (((w.alloc (.cells #[x,y] 25 (0,0))).alloc o).alloc (.cells #[.slice none 0 0,.slice none 0 0] 25 (0,0))) (w.heap.size+2) (.slice none 0 0) (.slice none 0 0)/\Bx (((w.alloc (.cells #[x,y] 25 (0,0))).alloc o).alloc (.cells #[.slice none 0 0,.slice none 0 0] 25 (0,0))) w.heap.size x y:=by
 have B1:=Za w (.cells #[x,y] 25 (0,0));have B2:=Za (w.alloc (.cells #[x,y] 25 (0,0))) o;have B3:=Za ((w.alloc (.cells #[x,y] 25 (0,0))).alloc o) (.cells #[.slice none 0 0,.slice none 0 0] 25 (0,0));have X:=Bx.new ((w.alloc (.cells #[x,y] 25 (0,0))).alloc o) (.slice none 0 0) (.slice none 0 0);rw [show ((w.alloc (.cells #[x,y] 25 (0,0))).alloc o).heap.size=w.heap.size+2 by simp] at X;exact ⟨bch (bch B1 B2 (Nat.le_refl _)) B3 (Nat.le_refl _),X,((Bx.new w x y).next B2).next B3⟩
theorem Zsp (ad af:Option Addr) (cd cf D N:Nat) (A:Ar.A) (E n:Int) (name text:ByteArray) (w:World)
 (C:Hid (∀ w',Below w.heap.size w w'->Calls Tryz.prog 13 #[.agg #[.slice ad D cd,.slice af N cf],.string name,.string text,.int .i64 n] w' fun e w2=>ArSaid w' A E e w2)) :
 Calls Tryz.prog 36 #[.agg #[.slice ad D cd,.slice af N cf],.agg #[.int .i64 1,.int .i64 n,.string name,.string text]] w fun e w'=>ArSaid w A E e w':=by
 obtain ⟨B0,R0,_⟩:=ZaB w (.slice ad D cd) (.slice af N cf) (.cells #[.int .i64 1,.int .i64 n,.string name,.string text] 54 (0,0));go_enter Tryz.func36,Tryz.ntmps36
 go_wp2_with fail
 generalize (((w.alloc (.cells #[.slice ad D cd,.slice af N cf] 25 (0,0))).alloc (.cells #[.int .i64 1,.int .i64 n,.string name,.string text] 54 (0,0))).alloc (.cells #[.slice none 0 0,.slice none 0 0] 25 (0,0)))=w0 at *;refine (C.out _ B0).mono ?_;intro e w1 h1;obtain ⟨p,q,p',q',rfl,O,G⟩:=h1.own;have R1:=R0.next G;have B1:=bch B0 G (nl _)
 have hfin:ArSaid w A E (.returned (.tuple #[.agg #[.slice p A.dicts.length q,.slice p' A.files.length q'],.int .i64 E])) _:=⟨_,_,rfl,(O.set2 (b:=w.heap.size+2) R0.lt (.slice p A.dicts.length q) (.slice p' A.files.length q')).low B0.size,Zp B1 (b:=w.heap.size+2) (by omega) (.slice p A.dicts.length q) (.slice p' A.files.length q')⟩
 clear R0 B0 C h1;generalize A.dicts.length=D2 at *;generalize A.files.length=N2 at *;have x0:=R1.c0;have x1:=R1.c1;have f0:=R1.f0;have f1:=R1.f1;have X5:=R1.set (u:=.slice p D2 q) (v:=.slice p' N2 q');clear R1 B1 G O;go_wp2_with fail
 clear x0 x1 f0 f1;have y0:=X5.c0;have y1:=X5.c1;generalize ((w1.setCell ⟨w.heap.size+2,0,none⟩ (.slice p D2 q)).setCell ⟨w.heap.size+2,1,none⟩ (.slice p' N2 q'))=wz at *;exact bodyPost_ret (v:=.tuple #[.agg #[.slice p D2 q,.slice p' N2 q'],.int .i64 E]) (by simp [results,Tryz.results36,go_sem,y0,y1]) rfl hfin
theorem ZtM (ad af:Option Addr) (cd cf D N:Nat) (A:Ar.A) (E n:Int) (name text:ByteArray) (w:World)
 (C:Hid (∀ w',Below w.heap.size w w'->Calls Tryz.prog 14 #[.agg #[.slice ad D cd,.slice af N cf],.string name] w' fun e w2=>ArSaid w' A E e w2)) :
 Calls Tryz.prog 36 #[.agg #[.slice ad D cd,.slice af N cf],.agg #[.int .i64 2,.int .i64 n,.string name,.string text]] w fun e w'=>ArSaid w A E e w':=by
 obtain ⟨B0,R0,_⟩:=ZaB w (.slice ad D cd) (.slice af N cf) (.cells #[.int .i64 2,.int .i64 n,.string name,.string text] 54 (0,0));go_enter Tryz.func36,Tryz.ntmps36
 go_wp2_with fail
 generalize (((w.alloc (.cells #[.slice ad D cd,.slice af N cf] 25 (0,0))).alloc (.cells #[.int .i64 2,.int .i64 n,.string name,.string text] 54 (0,0))).alloc (.cells #[.slice none 0 0,.slice none 0 0] 25 (0,0)))=w0 at *;refine (C.out _ B0).mono ?_;intro e w1 h1;obtain ⟨p,q,p',q',rfl,O,G⟩:=h1.own;have R1:=R0.next G;have B1:=bch B0 G (nl _)
 have hfin:ArSaid w A E (.returned (.tuple #[.agg #[.slice p A.dicts.length q,.slice p' A.files.length q'],.int .i64 E])) _:=⟨_,_,rfl,(O.set2 (b:=w.heap.size+2) R0.lt (.slice p A.dicts.length q) (.slice p' A.files.length q')).low B0.size,Zp B1 (b:=w.heap.size+2) (by omega) (.slice p A.dicts.length q) (.slice p' A.files.length q')⟩
 clear R0 B0 C h1;generalize A.dicts.length=D2 at *;generalize A.files.length=N2 at *;have x0:=R1.c0;have x1:=R1.c1;have f0:=R1.f0;have f1:=R1.f1;have X5:=R1.set (u:=.slice p D2 q) (v:=.slice p' N2 q');clear R1 B1 G O;go_wp2_with fail
 clear x0 x1 f0 f1;have y0:=X5.c0;have y1:=X5.c1;generalize ((w1.setCell ⟨w.heap.size+2,0,none⟩ (.slice p D2 q)).setCell ⟨w.heap.size+2,1,none⟩ (.slice p' N2 q'))=wz at *;exact bodyPost_ret (v:=.tuple #[.agg #[.slice p D2 q,.slice p' N2 q'],.int .i64 E]) (by simp [results,Tryz.results36,go_sem,y0,y1]) rfl hfin
theorem ZrT (ad af:Option Addr) (cd cf D N:Nat) (A:Ar.A) (E n:Int) (name text:ByteArray) (w:World)
 (C:Hid (∀ w',Below w.heap.size w w'->Calls Tryz.prog 25 #[.agg #[.slice ad D cd,.slice af N cf],.int .i64 n] w' fun e w2=>ArSaid w' A E e w2)) :
 Calls Tryz.prog 36 #[.agg #[.slice ad D cd,.slice af N cf],.agg #[.int .i64 3,.int .i64 n,.string name,.string text]] w fun e w'=>ArSaid w A E e w':=by
 obtain ⟨B0,R0,_⟩:=ZaB w (.slice ad D cd) (.slice af N cf) (.cells #[.int .i64 3,.int .i64 n,.string name,.string text] 54 (0,0));go_enter Tryz.func36,Tryz.ntmps36
 go_wp2_with fail
 generalize (((w.alloc (.cells #[.slice ad D cd,.slice af N cf] 25 (0,0))).alloc (.cells #[.int .i64 3,.int .i64 n,.string name,.string text] 54 (0,0))).alloc (.cells #[.slice none 0 0,.slice none 0 0] 25 (0,0)))=w0 at *;refine (C.out _ B0).mono ?_;intro e w1 h1;obtain ⟨p,q,p',q',rfl,O,G⟩:=h1.own;have R1:=R0.next G;have B1:=bch B0 G (nl _)
 have hfin:ArSaid w A E (.returned (.tuple #[.agg #[.slice p A.dicts.length q,.slice p' A.files.length q'],.int .i64 E])) _:=⟨_,_,rfl,(O.set2 (b:=w.heap.size+2) R0.lt (.slice p A.dicts.length q) (.slice p' A.files.length q')).low B0.size,Zp B1 (b:=w.heap.size+2) (by omega) (.slice p A.dicts.length q) (.slice p' A.files.length q')⟩
 clear R0 B0 C h1;generalize A.dicts.length=D2 at *;generalize A.files.length=N2 at *;have x0:=R1.c0;have x1:=R1.c1;have f0:=R1.f0;have f1:=R1.f1;have X5:=R1.set (u:=.slice p D2 q) (v:=.slice p' N2 q');clear R1 B1 G O;go_wp2_with fail
 clear x0 x1 f0 f1;have y0:=X5.c0;have y1:=X5.c1;generalize ((w1.setCell ⟨w.heap.size+2,0,none⟩ (.slice p D2 q)).setCell ⟨w.heap.size+2,1,none⟩ (.slice p' N2 q'))=wz at *;exact bodyPost_ret (v:=.tuple #[.agg #[.slice p D2 q,.slice p' N2 q'],.int .i64 E]) (by simp [results,Tryz.results36,go_sem,y0,y1]) rfl hfin
theorem Zsm (ad af:Option Addr) (cd cf D N:Nat) (A:Ar.A) (E n:Int) (name text:ByteArray) (w:World)
 (C:Hid (∀ w',Below w.heap.size w w'->Calls Tryz.prog 26 #[.agg #[.slice ad D cd,.slice af N cf]] w' fun e w2=>ArSaid w' A E e w2)) :
 Calls Tryz.prog 36 #[.agg #[.slice ad D cd,.slice af N cf],.agg #[.int .i64 4,.int .i64 n,.string name,.string text]] w fun e w'=>ArSaid w A E e w':=by
 obtain ⟨B0,R0,_⟩:=ZaB w (.slice ad D cd) (.slice af N cf) (.cells #[.int .i64 4,.int .i64 n,.string name,.string text] 54 (0,0));go_enter Tryz.func36,Tryz.ntmps36
 go_wp2_with fail
 generalize (((w.alloc (.cells #[.slice ad D cd,.slice af N cf] 25 (0,0))).alloc (.cells #[.int .i64 4,.int .i64 n,.string name,.string text] 54 (0,0))).alloc (.cells #[.slice none 0 0,.slice none 0 0] 25 (0,0)))=w0 at *;refine (C.out _ B0).mono ?_;intro e w1 h1;obtain ⟨p,q,p',q',rfl,O,G⟩:=h1.own;have R1:=R0.next G;have B1:=bch B0 G (nl _)
 have hfin:ArSaid w A E (.returned (.tuple #[.agg #[.slice p A.dicts.length q,.slice p' A.files.length q'],.int .i64 E])) _:=⟨_,_,rfl,(O.set2 (b:=w.heap.size+2) R0.lt (.slice p A.dicts.length q) (.slice p' A.files.length q')).low B0.size,Zp B1 (b:=w.heap.size+2) (by omega) (.slice p A.dicts.length q) (.slice p' A.files.length q')⟩
 clear R0 B0 C h1;generalize A.dicts.length=D2 at *;generalize A.files.length=N2 at *;have x0:=R1.c0;have x1:=R1.c1;have f0:=R1.f0;have f1:=R1.f1;have X5:=R1.set (u:=.slice p D2 q) (v:=.slice p' N2 q');clear R1 B1 G O;go_wp2_with fail
 clear x0 x1 f0 f1;have y0:=X5.c0;have y1:=X5.c1;generalize ((w1.setCell ⟨w.heap.size+2,0,none⟩ (.slice p D2 q)).setCell ⟨w.heap.size+2,1,none⟩ (.slice p' N2 q'))=wz at *;exact bodyPost_ret (v:=.tuple #[.agg #[.slice p D2 q,.slice p' N2 q'],.int .i64 E]) (by simp [results,Tryz.results36,go_sem,y0,y1]) rfl hfin
theorem ZlH (ad af:Option Addr) (cd cf D N:Nat) (k n:Int) (name text:ByteArray) (w:World) (h1:k ≠ 1) (h2:k ≠ 2) (h3:k ≠ 3) (h4:k ≠ 4) :
 Calls Tryz.prog 36 #[.agg #[.slice ad D cd,.slice af N cf],.agg #[.int .i64 k,.int .i64 n,.string name,.string text]] w fun e w'=>ArSaid w Ar.az 6 e w':=by
 obtain ⟨B0,R0,_⟩:=ZaB w (.slice ad D cd) (.slice af N cf) (.cells #[.int .i64 k,.int .i64 n,.string name,.string text] 54 (0,0));have k1:(k == 1)=false:=by simpa using h1
 have k2:(k == 2)=false:=by simpa using h2
 have k3:(k == 3)=false:=by simpa using h3
 have k4:(k == 4)=false:=by simpa using h4
 have hfin:=Zy (E:=6) B0;clear R0 B0 h1 h2 h3 h4;go_enter Tryz.func36,Tryz.ntmps36
 go_wp2_with fail
 exact bodyPost_ret (v:=.tuple #[.agg #[.slice none 0 0,.slice none 0 0],.int .i64 6]) (by simp [results,Tryz.results36,go_sem]) rfl hfin
theorem Zej (ad af:Option Addr) (cd cf:Nat) (a:Ar.A) (x:Im.Act) (w:World) (h:ArV w ad af a) (hs:SaneA a) (hn:x.name.size<=140737488355328) (ht:x.text.size<=140737488355328) (hM:Mx w) :
 Calls Tryz.prog 36 #[av ad cd af cf a,xv x] w fun e w'=>ArSaid w (Im.doA a x) (Im.doE a x) e w':=by
 have C1:=Zsp ad af cd cf a.dicts.length a.files.length (Ar.putA a x.name x.text x.n) (Ar.putE a x.name x.text x.n) x.n x.name x.text w (fun w' h9=>Zil ad af cd cf a x.name x.text x.n w' (h.below h9) hs hn ht);have C2:=ZtM ad af cd cf a.dicts.length a.files.length (Ar.ZbB a x.name) (Ar.getE a x.name) x.n x.name x.text w (fun w' h9=>ZgX ad af cd cf a x.name w' (h.below h9) hs);have C3:=ZrT ad af cd cf a.dicts.length a.files.length (Ar.retA a x.n) (Ar.retE a x.n) x.n x.name x.text w (fun w' h9=>Zfa ad af cd cf a x.n w' (h.below h9) hs (hM.below h9));have C4:=Zsm ad af cd cf a.dicts.length a.files.length (Ar.cmpA a) (Ar.chk a) x.n x.name x.text w (fun w' h9=>Zel ad af cd cf a w' (h.below h9) hs);unfold Im.doA Im.doE xv av;by_cases k1:x.kind=1
 ·rw [if_pos k1,if_pos k1,k1];exact C1
 by_cases k2:x.kind=2
 ·rw [if_neg k1,if_neg k1,if_pos k2,if_pos k2,k2];exact C2
 by_cases k3:x.kind=3
 ·rw [if_neg k1,if_neg k1,if_neg k2,if_neg k2,if_pos k3,if_pos k3,k3];exact C3
 by_cases k4:x.kind=4
 ·rw [if_neg k1,if_neg k1,if_neg k2,if_neg k2,if_neg k3,if_neg k3,if_pos k4,if_pos k4,k4];exact C4
 rw [if_neg k1,if_neg k1,if_neg k2,if_neg k2,if_neg k3,if_neg k3,if_neg k4,if_neg k4];exact ZlH ad af cd cf _ _ x.kind x.n x.name x.text w k1 k2 k3 k4
theorem ZuV (ad af:Option Addr) (cd cf D N:Nat) (A:Ar.A) (E n:Int) (name text:ByteArray) (w:World)
 (C:Hid (∀ w',Below w.heap.size w w'->Calls Tryz.prog 15 #[.agg #[.slice ad D cd,.slice af N cf],.string name,.string text,.int .i64 n] w' fun e w2=>ArSaid w' A E e w2)) :
 Calls Tryz.prog 37 #[.agg #[.slice ad D cd,.slice af N cf],.agg #[.int .i64 1,.int .i64 n,.string name,.string text]] w fun e w'=>ArSaid w A E e w':=by
 obtain ⟨B0,R0,_⟩:=ZaB w (.slice ad D cd) (.slice af N cf) (.cells #[.int .i64 1,.int .i64 n,.string name,.string text] 54 (0,0));go_enter Tryz.func37,Tryz.ntmps37
 go_wp2_with fail
 generalize (((w.alloc (.cells #[.slice ad D cd,.slice af N cf] 25 (0,0))).alloc (.cells #[.int .i64 1,.int .i64 n,.string name,.string text] 54 (0,0))).alloc (.cells #[.slice none 0 0,.slice none 0 0] 25 (0,0)))=w0 at *;refine (C.out _ B0).mono ?_;intro e w1 h1;obtain ⟨p,q,p',q',rfl,O,G⟩:=h1.own;have R1:=R0.next G;have B1:=bch B0 G (nl _)
 have hfin:ArSaid w A E (.returned (.tuple #[.agg #[.slice p A.dicts.length q,.slice p' A.files.length q'],.int .i64 E])) _:=⟨_,_,rfl,(O.set2 (b:=w.heap.size+2) R0.lt (.slice p A.dicts.length q) (.slice p' A.files.length q')).low B0.size,Zp B1 (b:=w.heap.size+2) (by omega) (.slice p A.dicts.length q) (.slice p' A.files.length q')⟩
 clear R0 B0 C h1;generalize A.dicts.length=D2 at *;generalize A.files.length=N2 at *;have x0:=R1.c0;have x1:=R1.c1;have f0:=R1.f0;have f1:=R1.f1;have X5:=R1.set (u:=.slice p D2 q) (v:=.slice p' N2 q');clear R1 B1 G O;go_wp2_with fail
 clear x0 x1 f0 f1;have y0:=X5.c0;have y1:=X5.c1;generalize ((w1.setCell ⟨w.heap.size+2,0,none⟩ (.slice p D2 q)).setCell ⟨w.heap.size+2,1,none⟩ (.slice p' N2 q'))=wz at *;exact bodyPost_ret (v:=.tuple #[.agg #[.slice p D2 q,.slice p' N2 q'],.int .i64 E]) (by simp [results,Tryz.results37,go_sem,y0,y1]) rfl hfin
theorem Zus (ad af:Option Addr) (cd cf D N:Nat) (A:Ar.A) (E n:Int) (name text:ByteArray) (w:World)
 (C:Hid (∀ w',Below w.heap.size w w'->Calls Tryz.prog 16 #[.agg #[.slice ad D cd,.slice af N cf],.string name] w' fun e w2=>ArSaid w' A E e w2)) :
 Calls Tryz.prog 37 #[.agg #[.slice ad D cd,.slice af N cf],.agg #[.int .i64 2,.int .i64 n,.string name,.string text]] w fun e w'=>ArSaid w A E e w':=by
 obtain ⟨B0,R0,_⟩:=ZaB w (.slice ad D cd) (.slice af N cf) (.cells #[.int .i64 2,.int .i64 n,.string name,.string text] 54 (0,0));go_enter Tryz.func37,Tryz.ntmps37
 go_wp2_with fail
 generalize (((w.alloc (.cells #[.slice ad D cd,.slice af N cf] 25 (0,0))).alloc (.cells #[.int .i64 2,.int .i64 n,.string name,.string text] 54 (0,0))).alloc (.cells #[.slice none 0 0,.slice none 0 0] 25 (0,0)))=w0 at *;refine (C.out _ B0).mono ?_;intro e w1 h1;obtain ⟨p,q,p',q',rfl,O,G⟩:=h1.own;have R1:=R0.next G;have B1:=bch B0 G (nl _)
 have hfin:ArSaid w A E (.returned (.tuple #[.agg #[.slice p A.dicts.length q,.slice p' A.files.length q'],.int .i64 E])) _:=⟨_,_,rfl,(O.set2 (b:=w.heap.size+2) R0.lt (.slice p A.dicts.length q) (.slice p' A.files.length q')).low B0.size,Zp B1 (b:=w.heap.size+2) (by omega) (.slice p A.dicts.length q) (.slice p' A.files.length q')⟩
 clear R0 B0 C h1;generalize A.dicts.length=D2 at *;generalize A.files.length=N2 at *;have x0:=R1.c0;have x1:=R1.c1;have f0:=R1.f0;have f1:=R1.f1;have X5:=R1.set (u:=.slice p D2 q) (v:=.slice p' N2 q');clear R1 B1 G O;go_wp2_with fail
 clear x0 x1 f0 f1;have y0:=X5.c0;have y1:=X5.c1;generalize ((w1.setCell ⟨w.heap.size+2,0,none⟩ (.slice p D2 q)).setCell ⟨w.heap.size+2,1,none⟩ (.slice p' N2 q'))=wz at *;exact bodyPost_ret (v:=.tuple #[.agg #[.slice p D2 q,.slice p' N2 q'],.int .i64 E]) (by simp [results,Tryz.results37,go_sem,y0,y1]) rfl hfin
theorem ZuI (ad af:Option Addr) (cd cf D N:Nat) (A:Ar.A) (E n:Int) (name text:ByteArray) (w:World)
 (C:Hid (∀ w',Below w.heap.size w w'->Calls Tryz.prog 28 #[.agg #[.slice ad D cd,.slice af N cf],.int .i64 n] w' fun e w2=>ArSaid w' A E e w2)) :
 Calls Tryz.prog 37 #[.agg #[.slice ad D cd,.slice af N cf],.agg #[.int .i64 3,.int .i64 n,.string name,.string text]] w fun e w'=>ArSaid w A E e w':=by
 obtain ⟨B0,R0,_⟩:=ZaB w (.slice ad D cd) (.slice af N cf) (.cells #[.int .i64 3,.int .i64 n,.string name,.string text] 54 (0,0));go_enter Tryz.func37,Tryz.ntmps37
 go_wp2_with fail
 generalize (((w.alloc (.cells #[.slice ad D cd,.slice af N cf] 25 (0,0))).alloc (.cells #[.int .i64 3,.int .i64 n,.string name,.string text] 54 (0,0))).alloc (.cells #[.slice none 0 0,.slice none 0 0] 25 (0,0)))=w0 at *;refine (C.out _ B0).mono ?_;intro e w1 h1;obtain ⟨p,q,p',q',rfl,O,G⟩:=h1.own;have R1:=R0.next G;have B1:=bch B0 G (nl _)
 have hfin:ArSaid w A E (.returned (.tuple #[.agg #[.slice p A.dicts.length q,.slice p' A.files.length q'],.int .i64 E])) _:=⟨_,_,rfl,(O.set2 (b:=w.heap.size+2) R0.lt (.slice p A.dicts.length q) (.slice p' A.files.length q')).low B0.size,Zp B1 (b:=w.heap.size+2) (by omega) (.slice p A.dicts.length q) (.slice p' A.files.length q')⟩
 clear R0 B0 C h1;generalize A.dicts.length=D2 at *;generalize A.files.length=N2 at *;have x0:=R1.c0;have x1:=R1.c1;have f0:=R1.f0;have f1:=R1.f1;have X5:=R1.set (u:=.slice p D2 q) (v:=.slice p' N2 q');clear R1 B1 G O;go_wp2_with fail
 clear x0 x1 f0 f1;have y0:=X5.c0;have y1:=X5.c1;generalize ((w1.setCell ⟨w.heap.size+2,0,none⟩ (.slice p D2 q)).setCell ⟨w.heap.size+2,1,none⟩ (.slice p' N2 q'))=wz at *;exact bodyPost_ret (v:=.tuple #[.agg #[.slice p D2 q,.slice p' N2 q'],.int .i64 E]) (by simp [results,Tryz.results37,go_sem,y0,y1]) rfl hfin
theorem Zuk (ad af:Option Addr) (cd cf D N:Nat) (A:Ar.A) (E n:Int) (name text:ByteArray) (w:World)
 (C:Hid (∀ w',Below w.heap.size w w'->Calls Tryz.prog 29 #[.agg #[.slice ad D cd,.slice af N cf]] w' fun e w2=>ArSaid w' A E e w2)) :
 Calls Tryz.prog 37 #[.agg #[.slice ad D cd,.slice af N cf],.agg #[.int .i64 4,.int .i64 n,.string name,.string text]] w fun e w'=>ArSaid w A E e w':=by
 obtain ⟨B0,R0,_⟩:=ZaB w (.slice ad D cd) (.slice af N cf) (.cells #[.int .i64 4,.int .i64 n,.string name,.string text] 54 (0,0));go_enter Tryz.func37,Tryz.ntmps37
 go_wp2_with fail
 generalize (((w.alloc (.cells #[.slice ad D cd,.slice af N cf] 25 (0,0))).alloc (.cells #[.int .i64 4,.int .i64 n,.string name,.string text] 54 (0,0))).alloc (.cells #[.slice none 0 0,.slice none 0 0] 25 (0,0)))=w0 at *;refine (C.out _ B0).mono ?_;intro e w1 h1;obtain ⟨p,q,p',q',rfl,O,G⟩:=h1.own;have R1:=R0.next G;have B1:=bch B0 G (nl _)
 have hfin:ArSaid w A E (.returned (.tuple #[.agg #[.slice p A.dicts.length q,.slice p' A.files.length q'],.int .i64 E])) _:=⟨_,_,rfl,(O.set2 (b:=w.heap.size+2) R0.lt (.slice p A.dicts.length q) (.slice p' A.files.length q')).low B0.size,Zp B1 (b:=w.heap.size+2) (by omega) (.slice p A.dicts.length q) (.slice p' A.files.length q')⟩
 clear R0 B0 C h1;generalize A.dicts.length=D2 at *;generalize A.files.length=N2 at *;have x0:=R1.c0;have x1:=R1.c1;have f0:=R1.f0;have f1:=R1.f1;have X5:=R1.set (u:=.slice p D2 q) (v:=.slice p' N2 q');clear R1 B1 G O;go_wp2_with fail
 clear x0 x1 f0 f1;have y0:=X5.c0;have y1:=X5.c1;generalize ((w1.setCell ⟨w.heap.size+2,0,none⟩ (.slice p D2 q)).setCell ⟨w.heap.size+2,1,none⟩ (.slice p' N2 q'))=wz at *;exact bodyPost_ret (v:=.tuple #[.agg #[.slice p D2 q,.slice p' N2 q'],.int .i64 E]) (by simp [results,Tryz.results37,go_sem,y0,y1]) rfl hfin
theorem Zol (ad af:Option Addr) (cd cf D N:Nat) (k n:Int) (name text:ByteArray) (w:World) (h1:k ≠ 1) (h2:k ≠ 2) (h3:k ≠ 3) (h4:k ≠ 4) :
 Calls Tryz.prog 37 #[.agg #[.slice ad D cd,.slice af N cf],.agg #[.int .i64 k,.int .i64 n,.string name,.string text]] w fun e w'=>ArSaid w Ar.az 6 e w':=by
 obtain ⟨B0,R0,_⟩:=ZaB w (.slice ad D cd) (.slice af N cf) (.cells #[.int .i64 k,.int .i64 n,.string name,.string text] 54 (0,0));have k1:(k == 1)=false:=by simpa using h1
 have k2:(k == 2)=false:=by simpa using h2
 have k3:(k == 3)=false:=by simpa using h3
 have k4:(k == 4)=false:=by simpa using h4
 have hfin:=Zy (E:=6) B0;clear R0 B0 h1 h2 h3 h4;go_enter Tryz.func37,Tryz.ntmps37
 go_wp2_with fail
 exact bodyPost_ret (v:=.tuple #[.agg #[.slice none 0 0,.slice none 0 0],.int .i64 6]) (by simp [results,Tryz.results37,go_sem]) rfl hfin
theorem ZfI (ad af:Option Addr) (cd cf:Nat) (a:Ar.A) (x:Im.Act) (w:World) (h:ArV w ad af a) (hs:SaneA a) (hn:x.name.size<=140737488355328) :
 Calls Tryz.prog 37 #[av ad cd af cf a,xv x] w fun e w'=>ArSaid w (Im.doA a x) (Im.doE a x) e w':=by
 have C1:=ZuV ad af cd cf a.dicts.length a.files.length (Ar.putA a x.name x.text x.n) (Ar.putE a x.name x.text x.n) x.n x.name x.text w (fun w' h9=>Zop ad af cd cf a x.name x.text x.n w' (h.below h9) hs hn);have C2:=Zus ad af cd cf a.dicts.length a.files.length (Ar.ZbB a x.name) (Ar.getE a x.name) x.n x.name x.text w (fun w' h9=>ZkT ad af cd cf a x.name w' (h.below h9) hs);have C3:=ZuI ad af cd cf a.dicts.length a.files.length (Ar.retA a x.n) (Ar.retE a x.n) x.n x.name x.text w (fun w' h9=>ZfO ad af cd cf a x.n w' (h.below h9) hs);have C4:=Zuk ad af cd cf a.dicts.length a.files.length (Ar.cmpA a) (Ar.chk a) x.n x.name x.text w (fun w' h9=>ZfY ad af cd cf a w' (h.below h9) hs);unfold Im.doA Im.doE xv av;by_cases k1:x.kind=1
 ·rw [if_pos k1,if_pos k1,k1];exact C1
 by_cases k2:x.kind=2
 ·rw [if_neg k1,if_neg k1,if_pos k2,if_pos k2,k2];exact C2
 by_cases k3:x.kind=3
 ·rw [if_neg k1,if_neg k1,if_neg k2,if_neg k2,if_pos k3,if_pos k3,k3];exact C3
 by_cases k4:x.kind=4
 ·rw [if_neg k1,if_neg k1,if_neg k2,if_neg k2,if_neg k3,if_neg k3,if_pos k4,if_pos k4,k4];exact C4
 rw [if_neg k1,if_neg k1,if_neg k2,if_neg k2,if_neg k3,if_neg k3,if_neg k4,if_neg k4];exact Zol ad af cd cf _ _ x.kind x.n x.name x.text w k1 k2 k3 k4
theorem SaneA.do {a:Ar.A} (h:SaneA a) {x:Im.Act} (hn:x.name.size<=140737488355328):SaneA (Im.doA a x):=by
 unfold Im.doA;split
 ·exact h.put hn
 ·split
  ·exact h.drop _
  ·split
   ·exact h.ret _
   ·split
    ·exact h.cmp
    ·exact Zdt
def ZbI (a:Ar.A) (w:World) (e:Ending) (w':World):Prop:=∃ v1 v2,e=.returned (.agg #[v1,v2])/\ArOwn w.heap.size w' v1 v2 a/\Below w.heap.size w w'
def SaneX (l:List Im.Act):Prop:=∀ x ∈ l,x.name.size<=140737488355328/\x.text.size<=140737488355328
theorem SaneX.at {l:List Im.Act} (h:SaneX l) {k:Nat} (hk:k<l.length):(Im.xa l k).name.size<=140737488355328/\(Im.xa l k).text.size<=140737488355328:=by
 rw [Im.ZcI hk];exact h _ (List.getElem_mem hk)
theorem SaneA.done {l:List Im.Act} (h:SaneX l):SaneA (Im.done l):=by
 have:∀ (l:List Im.Act) (a:Ar.A),SaneX l->SaneA a->SaneA (Im.Ztu l a):=fun l=>by
  induction l with
  | nil=>intro a _ h;exact h
  | cons x l ih =>
   intro a h1 h2;refine ih _ (fun y hy=>h1 y (List.mem_cons_of_mem _ hy)) ?_;show SaneA (if _ then _ else _);split
   ·exact h2.do (h1 x (List.mem_cons_self ..)).1
   ·exact h2
 exact this l _ h Zdt
theorem Im.done_take {l:List Im.Act} {k:Nat} (h:k<l.length):Im.done (l.take (k+1))=if Im.doE (Im.done (l.take k)) (Im.xa l k)=0 then Im.doA (Im.done (l.take k)) (Im.xa l k) else Im.done (l.take k):=by
 rw [List.take_succ_eq_append_getElem h,Im.ZmG,Im.ZcI h]
structure DS (w wr:World) (v1 v2:Value) (a:Ar.A):Prop where
 o:ArOwn (w.heap.size+2) wr v1 v2 a
 x:Bx wr (w.heap.size+1) v1 v2
 r:Bx wr w.heap.size (.slice none 0 0) (.slice none 0 0)
 g:Below w.heap.size w wr
theorem DS.next {w wr w':World} {v1 v2:Value} {a:Ar.A} (h:DS w wr v1 v2 a) (G:Below wr.heap.size wr w'):DS w w' v1 v2 a:=⟨h.o.next G,h.x.next G,h.r.next G,bch h.g G (nl _)⟩
theorem DS.put {w wr:World} {v1 v2 u1 u2:Value} {a b:Ar.A} (h:DS w wr v1 v2 a) {lo:Nat} (O:ArOwn lo wr u1 u2 b) (hl:w.heap.size+2<=lo):DS w ((wr.setCell ⟨w.heap.size+1,0,none⟩ u1).setCell ⟨w.heap.size+1,1,none⟩ u2) u1 u2 b :=
 ⟨(O.set2 (b:=w.heap.size+1) (by omega) u1 u2).low hl,h.x.set,h.r.far (by omega) u1 u2,Zp h.g (by omega) u1 u2⟩
theorem DS.start (w:World):DS w ((w.alloc (.cells #[.slice none 0 0,.slice none 0 0] 25 (0,0))).alloc (.cells #[.slice none 0 0,.slice none 0 0] 25 (0,0))) (.slice none 0 0) (.slice none 0 0) Ar.az:=by
 have B1:=Za w (.cells #[.slice none 0 0,.slice none 0 0] 25 (0,0));have B2:=Za (w.alloc (.cells #[.slice none 0 0,.slice none 0 0] 25 (0,0))) (.cells #[.slice none 0 0,.slice none 0 0] 25 (0,0));have X:=Bx.new (w.alloc (.cells #[.slice none 0 0,.slice none 0 0] 25 (0,0))) (.slice none 0 0) (.slice none 0 0);rw [show (w.alloc (.cells #[.slice none 0 0,.slice none 0 0] 25 (0,0))).heap.size=w.heap.size+1 by simp] at X;exact ⟨ZiH _ _,X,(Bx.new w _ _).next B2,bch B1 B2 (Nat.le_refl _)⟩
theorem DS.fin {w wr:World} {v1 v2:Value} {a:Ar.A} (h:DS w wr v1 v2 a):Bx ((wr.setCell ⟨w.heap.size,0,none⟩ v1).setCell ⟨w.heap.size,1,none⟩ v2) w.heap.size v1 v2/\ZbI a w (.returned (.agg #[v1,v2])) ((wr.setCell ⟨w.heap.size,0,none⟩ v1).setCell ⟨w.heap.size,1,none⟩ v2) :=
 ⟨h.r.set,_,_,rfl,(h.o.set2 (b:=w.heap.size) (by omega) v1 v2).low (by omega),Zp h.g (nl _) v1 v2⟩
theorem ZjE (ad:Option Addr) (cap:Nat) (l:List Im.Act) (w:World) (h:XSl w ad l) (hX:SaneX l) (hN:l.length<=1000) (hM:Mx w) :
 Calls Tryz.prog 87 #[.slice ad l.length cap] w fun e w'=>ZbI (Im.done l) w e w':=by
 have CD:Hid (∀ w' k p cp q cq,Below w.heap.size w w'->k<l.length->ArV w' p q (Im.done (l.take k))->Calls Tryz.prog 36 #[av p cp q cq (Im.done (l.take k)),.agg #[.int .i64 (Im.xa l k).kind,.int .i64 (Im.xa l k).n,.string (Im.xa l k).name,.string (Im.xa l k).text]] w' fun e w2=>ArSaid w' (Im.doA (Im.done (l.take k)) (Im.xa l k)) (Im.doE (Im.done (l.take k)) (Im.xa l k)) e w2):=fun w' k p cp q cq hb hk hv=>Zej p q cp cq (Im.done (l.take k)) (Im.xa l k) w' hv (SaneA.done (fun x hx=>hX x (List.mem_of_mem_take hx))) (hX.at hk).1 (hX.at hk).2 (hM.below hb)
 have HS:Hid (∀ k,k<l.length->Im.done (l.take (k+1))=if Im.doE (Im.done (l.take k)) (Im.xa l k)=0 then Im.doA (Im.done (l.take k)) (Im.xa l k) else Im.done (l.take k)):=fun k hk=>Im.done_take hk
 have HX:Hid (∀ w' k,Below w.heap.size w w'->k<l.length->∃ b off,ad=some ⟨b,off,none⟩/\b<w'.heap.size/\XC w' b (off+k*4) (Im.xa l k)):=fun w' k hb hk=>(h.below hb).at hk
 have H0:Hid (Im.done (l.take 0)=Ar.az):=rfl;have HE:Hid (Im.done (l.take l.length)=Im.done l):=by show _=_;rw [List.take_length]
 have T0:=DS.start w;clear h hX hM;rw [<-HE.out];clear HE;unfold av at CD;generalize l.length=N at *
 obtain ⟨dk,hdk⟩:∃ dk:Nat->Ar.A,∀ k,Im.done (l.take k)=dk k:=⟨_,fun _=>rfl⟩
 simp only [hdk] at CD HS H0 |-
 clear hdk;generalize Im.xa l=xa at *;go_enter Tryz.func87,Tryz.ntmps87
 go_wp2_with fail
 generalize ((w.alloc (.cells #[.slice none 0 0,.slice none 0 0] 25 (0,0))).alloc (.cells #[.slice none 0 0,.slice none 0 0] 25 (0,0)))=w0 at *;go_loopw [10] (fun i wr=>∃ (k:Nat) (v1 v2:Value),k<=N/\i=.int .i64 k/\DS w wr v1 v2 (dk k)) (fun i _=>N - (intOf i).toNat)
 case atStart=>exact ⟨0,_,_,by omega,rfl,by rw [H0.out];exact T0⟩
 case round =>
  clear T0 H0;obtain ⟨k,v1,v2,hk,rfl,T⟩:=hrel;obtain ⟨p,cp,q,cq,rfl,rfl,hv⟩:=T.o.slices;by_cases hlt:k<N
  ·have d1:decide ((k:Int)<(N:Int))=true:=zdT (by omega);have d1':decide (k<N)=true:=zdT hlt;have hki:(k:Int)<(N:Int):=by omega
   obtain ⟨b,off,rfl,hbl,c0,c1,c2,c3⟩:=HX.out wr k T.g hlt;have HS':=Zak (HS.out k hlt);have C:Hid (∀ w',Below w.heap.size w w'->ArV w' p q (dk k)->_):=fun w' h1 h2=>CD.out w' k p cp q cq h1 hlt h2
   generalize (xa k).kind=ak at *;generalize (xa k).n=an at *;generalize (xa k).name=nm at *;generalize (xa k).text=tx at *;generalize Im.doA (dk k) (xa k)=A2 at *;generalize Im.doE (dk k) (xa k)=E at *;have GA:=Za wr (.cells #[.int .i64 ak,.int .i64 an,.string nm,.string tx] 54 (0,0));have X1:=XB.new wr 54 ak an nm tx;have T1:=T.next GA;have hv1:=hv.below GA;generalize (dk k).dicts.length=D at *;generalize (dk k).files.length=F at *;have hlo:=T.x.lt;have y0:=T1.x.c0;have y1:=T1.x.c1;obtain ⟨x0,x1,x2,x3,_⟩:=X1;clear T HX CD;go_wp2_with fail
   clear y0 y1 x0 x1 x2 x3 c0 c1 c2 c3;have hsz:(wr.alloc (.cells #[.int .i64 ak,.int .i64 an,.string nm,.string tx] 54 (0,0))).heap.size=wr.heap.size+1:=by simp
   generalize (wr.alloc (.cells #[.int .i64 ak,.int .i64 an,.string nm,.string tx] 54 (0,0)))=w1 at *;refine (C.out _ T1.g hv1).mono ?_;intro e w2 h1;obtain ⟨p2,q2,p3,q3,rfl,O2,G2⟩:=h1.own;clear h1 C;generalize A2.dicts.length=D2 at *;generalize A2.files.length=F2 at *;have GB:=Za w2 (.cells #[.slice p2 D2 q2,.slice p3 F2 q3] 25 (0,0));have T3:=(T1.next G2).next GB;have O3:=O2.next GB;have XB:=Bx.new w2 (.slice p2 D2 q2) (.slice p3 F2 q3);clear T1 O2 G2 GB hv1 hv;generalize hw3:(w2.alloc (.cells #[.slice p2 D2 q2,.slice p3 F2 q3] 25 (0,0)))=w3 at *;by_cases hE:E=0
   ·subst hE;have e2:=HS'.out;rw [if_pos rfl] at e2;have HS2:=Zak e2;clear e2;have T4:=T3.put O3 (by omega);have k0:=XB.c0;have k1:=XB.c1;have y0:=T3.x.c0;have y1:=T3.x.c1;have z0:=T3.x.f0;have z1:=T3.x.f1;have hbl2:=XB.lt;clear T3 O3 XB HS';go_wp2_with fail
    clear hw3 k0 k1 y0 y1 z0 z1;go_roundw
    case rel=>exact ⟨k+1,_,_,by omega,by go_num,by rw [HS2.out];exact T4⟩
    case measure=>simp [intOf];omega
   ·have dE:(E == 0)=false:=by simpa using hE
    have e2:=HS'.out;rw [if_neg hE] at e2;have HS2:=Zak e2;clear e2 O3 XB HS';go_wp2_with fail
    clear hw3;go_roundw
    case rel=>exact ⟨k+1,_,_,by omega,by go_num,by rw [HS2.out];exact T3⟩
    case measure=>simp [intOf];omega
  ·obtain rfl:k=N:=by omega
   have d1:decide ((k:Int)<(k:Int))=false:=by simp
   have d1':decide (k<k)=false:=by simp
   obtain ⟨X9,hq⟩:=T.fin;generalize (dk k).dicts.length=D at *;generalize (dk k).files.length=F at *;have y0:=T.x.c0;have y1:=T.x.c1;have x0:=T.r.c0;have x1:=T.r.c1;have z0:=T.r.f0;have z1:=T.r.f1;clear T hv;go_wp2_with fail
   clear y0 y1 x0 x1 z0 z1;have y0:=X9.c0;have y1:=X9.c1;generalize ((wr.setCell ⟨w.heap.size,0,none⟩ (.slice p D cp)).setCell ⟨w.heap.size,1,none⟩ (.slice q F cq))=wz at *;exact bodyPost_ret (v:=.agg #[.slice p D cp,.slice q F cq]) (by simp [results,Tryz.results87,go_sem,y0,y1]) rfl hq
namespace Im
theorem ZgZ (s:ByteArray):(∀ x ∈ rplL s,okX x)/\(rplL s).length<=100/\rplN s<=s.size:=by
 unfold rplL rplN;by_cases h:16384<s.size
 ·rw [if_pos h,if_pos h];exact ⟨by simp,by simp,by omega⟩
 ·rw [if_neg h,if_neg h];obtain ⟨_,h2,h3,_⟩:=Zrh 100 s;exact ⟨h2,h3,by omega⟩
theorem Zra (x:Act):(wrtT x).size<=1100:=by
 unfold wrtT;split
 ·rename_i h
  have h1:=ZcK (Zbt.1 h);have h2:=Nm.Zt (Zbl x).length (by omega);rw [Zj];simp only [actB,List.length_append];omega
 ·show 0<=_;omega
end Im
theorem ZdW (s:ByteArray):SaneX (Im.rplL s):=fun x hx=>by
 obtain ⟨_,_,h3,h4⟩:=(Im.ZgZ s).1 x hx;exact ⟨by omega,by omega⟩
def Zcb (a:Ar.A) (n:Nat) (E:Int) (w:World) (e:Ending) (w':World):Prop:=∃ v1 v2,e=.returned (.tuple #[.agg #[v1,v2],.int .i64 (n:Nat),.int .i64 E])/\ArOwn w.heap.size w' v1 v2 a/\Below w.heap.size w w'
theorem RpSaid.open {l:List Im.Act} {n:Nat} {E:Int} {w w':World} {e:Ending} (h:RpSaid l n E w e w'):∃ ad cap,e=.returned (.tuple #[.slice ad l.length cap,.int .i64 (n:Nat),.int .i64 E])/\XSl w' ad l/\Below w.heap.size w w':=by
 obtain ⟨v,rfl,h2,h3⟩:=h;obtain ⟨ad,cap,rfl,hx⟩:=Zqd h2;exact ⟨ad,cap,rfl,hx,h3⟩
theorem Zez (s:ByteArray) (w:World) (hM:Mx w) :
 Calls Tryz.prog 45 #[.string s] w fun e w'=>Zcb (Im.done (Im.rplL s)) (Im.rplL s).length (Im.rplE s) w e w':=by
 have B1:=Za w (.cells #[.slice none 0 0,.slice none 0 0] 25 (0,0));have R1:=Bx.new w (.slice none 0 0) (.slice none 0 0);have C:=Zdh s (w.alloc (.cells #[.slice none 0 0,.slice none 0 0] 25 (0,0)));obtain ⟨_,hl,_⟩:=Im.ZgZ s;have hX:=ZdW s;by_cases hb:16384<s.size
 ·have e1:Im.rplL s=[]:=if_pos hb;have e2:Im.rplE s=2:=if_pos hb;rw [e1,e2] at C;rw [e1,e2];clear e1 e2 hl hX hM
  have HQ:Hid (∀ w',Below w.heap.size w w'->Zcb (Im.done []) ([]:List Im.Act).length 2 w (.returned (.tuple #[.agg #[.slice none 0 0,.slice none 0 0],.int .i64 0,.int .i64 2])) w'):=fun w' h9=>⟨_,_,rfl,ZiH _ _,h9⟩
  generalize Zcb (Im.done []) ([]:List Im.Act).length 2 w=Q at *;generalize Im.rplN s=n at *;go_enter Tryz.func45,Tryz.ntmps45
  go_wp2_with fail
  generalize (w.alloc (.cells #[.slice none 0 0,.slice none 0 0] 25 (0,0)))=w0 at *;refine C.mono ?_;intro e w1 h1;obtain ⟨ad,cap,rfl,_,G⟩:=h1.open;have R2:=R1.next G;have hq:=HQ.out _ (Zp (bch B1 G (nl _)) (b:=w.heap.size) (nl _) (.slice none 0 0) (.slice none 0 0));have X5:=R2.set (u:=.slice none 0 0) (v:=.slice none 0 0);have x0:=R2.c0;have x1:=R2.c1;have f0:=R2.f0;have f1:=R2.f1;clear C R1 R2 B1 G h1 HQ;go_wp2_with fail
  clear x0 x1 f0 f1;have y0:=X5.c0;have y1:=X5.c1;generalize ((w1.setCell ⟨w.heap.size,0,none⟩ (.slice none 0 0)).setCell ⟨w.heap.size,1,none⟩ (.slice none 0 0))=wz at *;exact bodyPost_ret (v:=.tuple #[.agg #[.slice none 0 0,.slice none 0 0],.int .i64 0,.int .i64 2]) (by simp [results,Tryz.results45,go_sem,y0,y1]) rfl hq
 ·have e2:Im.rplE s=0:=if_neg hb;rw [e2] at C;rw [e2];clear e2 hb;generalize Im.rplL s=l at *;generalize Im.rplN s=n at *;have CD:Hid (∀ w' ad cap,Below w.heap.size w w'->XSl w' ad l->Calls Tryz.prog 87 #[.slice ad l.length cap] w' fun e w2=>ZbI (Im.done l) w' e w2):=fun w' ad cap h1 h2=>ZjE ad cap l w' h2 hX (by omega) (hM.below h1)
  have HQ:Hid (∀ v1 v2 w',ArOwn w.heap.size w' v1 v2 (Im.done l)->Below w.heap.size w w'->Zcb (Im.done l) l.length 0 w (.returned (.tuple #[.agg #[v1,v2],.int .i64 (l.length:Nat),.int .i64 0])) w'):=fun v1 v2 w' h1 h2=>⟨_,_,rfl,h1,h2⟩
  generalize Zcb (Im.done l) l.length 0 w=Q at *;clear hX hM;go_enter Tryz.func45,Tryz.ntmps45
  go_wp2_with fail
  generalize (w.alloc (.cells #[.slice none 0 0,.slice none 0 0] 25 (0,0)))=w0 at *;refine C.mono ?_;intro e w1 h1;obtain ⟨ad,cap,rfl,hx,G⟩:=h1.open;have R2:=R1.next G;have B2:=bch B1 G (nl _);have C2:=CD.out w1 ad cap B2 hx;have hlt:=R2.lt;clear C R1 B1 G h1 CD hx;generalize l.length=N at *;generalize Im.done l=A at *;go_wp2_with fail
  refine C2.mono ?_;rintro e w2 ⟨v1,v2,rfl,O,G⟩;have R3:=R2.next G;have B3:=bch B2 G (nl _);have hq:=HQ.out v1 v2 _ ((O.set2 (b:=w.heap.size) hlt v1 v2).low (by omega)) (Zp B3 (b:=w.heap.size) (nl _) v1 v2);obtain ⟨p,cp,q,cq,rfl,rfl,_⟩:=O.slices;generalize A.dicts.length=D at *;generalize A.files.length=F at *;have X5:=R3.set (u:=.slice p D cp) (v:=.slice q F cq);have x0:=R3.c0;have x1:=R3.c1;have f0:=R3.f0;have f1:=R3.f1;clear C2 R2 R3 B2 B3 G O HQ;go_wp2_with fail
  clear x0 x1 f0 f1;have y0:=X5.c0;have y1:=X5.c1;generalize ((w2.setCell ⟨w.heap.size,0,none⟩ (.slice p D cp)).setCell ⟨w.heap.size,1,none⟩ (.slice q F cq))=wz at *;exact bodyPost_ret (v:=.tuple #[.agg #[.slice p D cp,.slice q F cq],.int .i64 (N:Nat),.int .i64 0]) (by simp [results,Tryz.results45,go_sem,y0,y1]) rfl hq
structure Wtr (B p:Nat) (w:World) (v:Value) (l:List UInt8) (er:Int):Prop where
 hp:B<=p
 lt:p<w.heap.size
 c0:w.cell? ⟨p,0,none⟩=some v
 c1:w.cell? ⟨p,1,none⟩=some (.int .i64 er)
 f0:w.frozen? ⟨p,0,none⟩=false
 f1:w.frozen? ⟨p,1,none⟩=false
 own:Own8 w B v l
 ne:v.ownBlock ≠ some p
theorem Wtr.below {B p:Nat} {w w':World} {v:Value} {l:List UInt8} {er:Int} (h:Wtr B p w v l er) (G:Below w.heap.size w w'):Wtr B p w' v l er :=
 ⟨h.hp,nT h.lt G.size,(G.cell (p:=⟨p,0,none⟩) h.lt).trans h.c0,(G.cell (p:=⟨p,1,none⟩) h.lt).trans h.c1,(G.frozen (p:=⟨p,0,none⟩) h.lt).trans h.f0,(G.frozen (p:=⟨p,1,none⟩) h.lt).trans h.f1,h.own.below G,h.ne⟩
theorem Wtr.app {B p:Nat} {w w1:World} {v v':Value} {l l':List UInt8} {er:Int} (h:Wtr B p w v l er) (A:App w w1 B v v' l'):Wtr B p (w1.setCell ⟨p,0,none⟩ v') v' l' er/\Below B w (w1.setCell ⟨p,0,none⟩ v'):=by
 have hb:=A.block p h.lt (fun e=>h.ne e.symm);have k0:w1.cell? ⟨p,0,none⟩=some v:=(cB (w:=w) hb).trans h.c0;have k1:w1.cell? ⟨p,1,none⟩=some (.int .i64 er):=(cB (w:=w) hb).trans h.c1
 have hne:v'.ownBlock ≠ some p:=fun e=>by
  rcases A.at_ p e with h9 | h9
  ·exact h.ne h9
  ·have:=h.lt;omega
 refine ⟨⟨h.hp,?_,World.cell?_setCell_same _ _ _ k0,(World.cell?_setCell_other _ _ _ _ (by intro e;have:=congrArg Addr.off e;simp at this)).trans k1,?_,?_,?_,hne⟩,A.below.setCell h.hp _⟩
 ·have:=A.own;have h2:=World.block_lt_of_cell? w1 _ k0;simpa [World.setCell] using h2
 ·rw [fS];exact (fB (w:=w) hb).trans h.f0
 ·rw [fS];exact (fB (w:=w) hb).trans h.f1
 ·exact A.own.kept (by simp [World.setCell]) (fun g hg=>Below.heap_setCell _ _ _ _ (fun e=>hne (by rw [hg];exact congrArg some e)))
theorem Wtr.err {B p:Nat} {w:World} {v:Value} {l:List UInt8} {er:Int} (h:Wtr B p w v l er) (e:Int):Wtr B p (w.setCell ⟨p,1,none⟩ (.int .i64 e)) v l e/\Below B w (w.setCell ⟨p,1,none⟩ (.int .i64 e)):=by
 refine ⟨⟨h.hp,?_,(World.cell?_setCell_other _ _ _ _ (by intro e;have:=congrArg Addr.off e;simp at this)).trans h.c0,World.cell?_setCell_same _ _ _ h.c1,?_,?_,?_,h.ne⟩,(Below.refl _ _).setCell h.hp _⟩
 ·have:=h.lt;simpa [World.setCell] using this
 ·rw [fS];exact h.f0
 ·rw [fS];exact h.f1
 ·exact h.own.kept (by simp [World.setCell]) (fun g hg=>Below.heap_setCell _ _ _ _ (fun e=>h.ne (by rw [hg];exact congrArg some e)))
theorem Own8.slice {w:World} {B:Nat} {v:Value} {l:List UInt8} (h:Own8 w B v l):∃ x n c,v=.slice x n c:=by
 rcases h with ⟨rfl,_⟩ | ⟨g,cap,rfl,_⟩
 ·exact ⟨_,_,_,rfl⟩
 ·exact ⟨_,_,_,rfl⟩
theorem Own8.str {w:World} {B:Nat} {v:Value} {l:List UInt8} (h:Own8 w B v l):(convert 93 9 v).run Tryz.prog w=.ok (.string ⟨l.toArray⟩) w:=by
 rcases h with ⟨rfl,rfl⟩ | ⟨g,cap,rfl,_,_,_,_,h5,_⟩
 ·exact Lib.run_convert_nil_bytes w 93 9 5 0 Tryz.underlying93 Tryz.underlying5 Tryz.underlying9
 ·have:=Own8.conv h5 0 cap;simpa using this
structure WF (p:Nat) (w w':World) (v v':Value):Prop where
 blk:∀ k,k<w.heap.size->k ≠ p->v.ownBlock ≠ some k->w'.heap[k]?=w.heap[k]?
 at_:∀ g,v'.ownBlock=some g->v.ownBlock=some g\/w.heap.size<=g
 sz:w.heap.size<=w'.heap.size
theorem WF.trans {p:Nat} {a b c:World} {v1 v2 v3:Value} (h:WF p a b v1 v2) (g:WF p b c v2 v3):WF p a c v1 v3:=by
 refine ⟨fun k hk hp hv=>(g.blk k (nT hk h.sz) hp (fun e=>?_)).trans (h.blk k hk hp hv),fun x hx=>?_,Nat.le_trans h.sz g.sz⟩
 ·rcases h.at_ k e with h9 | h9
  ·exact hv h9
  ·omega
 ·rcases g.at_ x hx with h9 | h9
  ·exact h.at_ x h9
  ·exact .inr (Nat.le_trans h.sz h9)
theorem WF.of {p:Nat} {w w':World} {v:Value} (G:Below w.heap.size w w'):WF p w w' v v:=⟨fun k hk _ _=>G.block k hk,fun _ h=>.inl h,G.size⟩
theorem WF.app {B p:Nat} {w w1:World} {v v':Value} {l':List UInt8} (A:App w w1 B v v' l') (hz:w.heap.size<=w1.heap.size):WF p w (w1.setCell ⟨p,0,none⟩ v') v v' :=
 ⟨fun k hk hp hv=>(Below.heap_setCell _ _ _ _ hp).trans (A.block k hk (fun e=>hv e.symm)),A.at_,by simpa [World.setCell] using hz⟩
theorem WF.err {p:Nat} {w:World} {v:Value} (u:Value):WF p w (w.setCell ⟨p,1,none⟩ u) v v:=⟨fun k _ hp _=>Below.heap_setCell _ _ _ _ hp,fun _ h=>.inl h,by simp [World.setCell]⟩
def ZcF (B p:Nat) (w:World) (v:Value) (l:List UInt8) (er:Int) (e:Ending) (w':World):Prop:=e=.returned (.tuple #[])/\Below B w w'/\∃ v',Wtr B p w' v' l er/\WF p w w' v v'
theorem ZbC (B p:Nat) (w:World) (v:Value) (l:List UInt8) (er:Int) (s:ByteArray) (h:Wtr B p w v l er) (hl:l.length+s.size<=140737488355328) :
 Calls Tryz.prog 111 #[.pointer (some ⟨p,0,none⟩),.string s] w fun e w'=>ZcF B p w v (l++s.data.toList) er e w':=by
 have c0:=h.c0;have hO:=h.own;have hB:B<=w.heap.size:=Nat.le_of_lt (Nat.lt_of_le_of_lt h.hp h.lt);have hA:Hid (∀ v' w1,App w w1 B v v' (l++s.data.toList)->Wtr B p (w1.setCell ⟨p,0,none⟩ v') v' (l++s.data.toList) er/\Below B w (w1.setCell ⟨p,0,none⟩ v')):=fun v' w1 A=>h.app A
 have hC:Hid (∀ v' w1,App w w1 B v v' (l++s.data.toList)->w1.cell? ⟨p,0,none⟩=some v/\w1.frozen? ⟨p,0,none⟩=false):=fun v' w1 A=>⟨(cB (w:=w) (A.block p h.lt (fun e=>h.ne e.symm))).trans h.c0,(fB (w:=w) (A.block p h.lt (fun e=>h.ne e.symm))).trans h.f0⟩
 clear h;go_enter Tryz.func111,Tryz.ntmps111
 go_wp2_with (at_builtin;refine Zcp _ rfl _ _ rfl B v l rfl hO s rfl hl hB ?_;intro v' w1 A;obtain ⟨k0,kf⟩:=hC.out _ _ A;have A2:=hA.out _ _ A;obtain ⟨x,n,c,hv⟩:=A.own.slice;subst hv)
 go_end0
 exact ⟨rfl,A2.2,_,A2.1,WF.app A A.below.size⟩
theorem Zfg (B p:Nat) (w:World) (v:Value) (l:List UInt8) (er:Int) (h:Wtr B p w v l er) :
 Calls Tryz.prog 112 #[.pointer (some ⟨p,0,none⟩)] w fun e w'=>e=.returned (.string ⟨l.toArray⟩)/\Below w.heap.size w w':=by
 have c0:=h.c0;have hO:=h.own.str;clear h;go_enter Tryz.func112,Tryz.ntmps112
 go_wp2_with fail
 go_ret
 exact ⟨rfl,bR _ _⟩
theorem Zhn (B p:Nat) (w:World) (v:Value) (l:List UInt8) (er:Int) (s:ByteArray) (E:Int) (h:Wtr B p w v l er) (hl:l.length+s.size<=140737488355328) :
 Calls Tryz.prog 120 #[.pointer (some ⟨p,0,none⟩),.string s,.int .i64 E] w fun e w'=>ZcF B p w v (l++s.data.toList) (if er=0 then E else er) e w':=by
 have c1:=h.c1;have f1:=h.f1;have hB:B<=w.heap.size:=Nat.le_of_lt (Nat.lt_of_le_of_lt h.hp h.lt);by_cases he:er=0
 ·subst he;rw [if_pos rfl];obtain ⟨h2,G⟩:=h.err E;have C:=ZbC B p _ v l E s h2 hl;have hQ:Hid (∀ w',Below B (w.setCell ⟨p,1,none⟩ (.int .i64 E)) w'->Below B w w'):=fun w' h9=>G.trans h9
  clear h h2 G;go_enter Tryz.func120,Tryz.ntmps120
  go_wp2_with fail
  refine C.mono ?_;rintro e w1 ⟨rfl,G,v',h',F'⟩;go_wp2_with fail
  go_end0
  exact ⟨rfl,hQ.out _ G,_,h',(WF.err _).trans F'⟩
 ·rw [if_neg he];have C:=ZbC B p _ v l er s h hl;have d1:(er == 0)=false:=by simpa using he
  clear h;go_enter Tryz.func120,Tryz.ntmps120
  go_wp2_with fail
  refine C.mono ?_;rintro e w1 ⟨rfl,G,v',h',F'⟩;go_wp2_with fail
  go_end0
  exact ⟨rfl,G,_,h',F'⟩
namespace Im
def nW (n:Int):List UInt8:=if 0<=n/\n<=2147483647 then Nm.nb n.toNat else []
def nE (n:Int):Int:=if 0<=n/\n<=2147483647 then 0 else 3
def tW (s:ByteArray):List UInt8:=if s.size<=512 then tb s else []
def tE (s:ByteArray):Int:=if s.size<=512 then 0 else 2
def er1 (er E:Int):Int:=if er=0 then E else er
end Im
theorem Zcf (B p:Nat) (w:World) (v:Value) (l:List UInt8) (er n:Int) (h:Wtr B p w v l er) (hl:l.length+5<=140737488355328) :
 Calls Tryz.prog 79 #[.pointer (some ⟨p,0,none⟩),.int .i64 n] w fun e w'=>ZcF B p w v (l++Im.nW n) (Im.er1 er (Im.nE n)) e w':=by
 have hB:B<=w.heap.size:=Nat.le_of_lt (Nat.lt_of_le_of_lt h.hp h.lt)
 have C1:Calls Tryz.prog 121 #[.int .i64 n] w fun e w'=>e=.returned (.tuple #[.string ⟨(Im.nW n).toArray⟩,.int .i64 (Im.nE n)])/\Below w.heap.size w w':=by
  unfold Im.nW Im.nE;by_cases hn:0<=n/\n<=2147483647
  ·rw [if_pos hn,if_pos hn];exact Zgf n w hn.1 hn.2
  ·rw [if_neg hn,if_neg hn];exact ZtR n w (by omega)
 have hz:(Im.nW n).length<=5:=by
  unfold Im.nW;by_cases hn:0<=n/\n<=2147483647
  ·rw [if_pos hn];exact Nm.Zt _ (by omega)
  ·rw [if_neg hn];simp
 have C2:Hid (∀ w',Below w.heap.size w w'->Calls Tryz.prog 120 #[.pointer (some ⟨p,0,none⟩),.string ⟨(Im.nW n).toArray⟩,.int .i64 (Im.nE n)] w' fun e w2=>ZcF B p w' v (l++Im.nW n) (Im.er1 er (Im.nE n)) e w2):=fun w' h9=>by
  have:=Zhn B p w' v l er ⟨(Im.nW n).toArray⟩ (Im.nE n) (h.below h9) (by show l.length+(Im.nW n).toArray.size<=_;simp;omega);simpa [Im.er1] using this
 generalize Im.nW n=L at *;generalize Im.er1 er (Im.nE n)=R at *;generalize Im.nE n=E at *;clear h;go_enter Tryz.func79,Tryz.ntmps79
 go_wp2_with fail
 refine C1.mono ?_;rintro e w1 ⟨rfl,G⟩;go_wp2_with fail
 refine (C2.out _ G).mono ?_;rintro e w2 ⟨rfl,G2,v',h',F'⟩;have G3:Below B w w2:=(G.mono hB).trans G2;have F3:=(WF.of (p:=p) (v:=v) G).trans F';go_wp2_with fail
 go_end0
 exact ⟨rfl,G3,_,h',F3⟩
theorem ZhL (B p:Nat) (w:World) (v:Value) (l:List UInt8) (er:Int) (s:ByteArray) (h:Wtr B p w v l er) (hl:l.length+520<=140737488355328) (hs:s.size<=281474976710656) :
 Calls Tryz.prog 80 #[.pointer (some ⟨p,0,none⟩),.string s] w fun e w'=>ZcF B p w v (l++Im.tW s) (Im.er1 er (Im.tE s)) e w':=by
 have hB:B<=w.heap.size:=Nat.le_of_lt (Nat.lt_of_le_of_lt h.hp h.lt)
 have C1:Calls Tryz.prog 122 #[.string s] w fun e w'=>e=.returned (.tuple #[.string ⟨(Im.tW s).toArray⟩,.int .i64 (Im.tE s)])/\Below w.heap.size w w':=by
  unfold Im.tW Im.tE;by_cases hn:s.size<=512
  ·rw [if_pos hn,if_pos hn]
   have e1:(⟨(Im.tb s).toArray⟩:ByteArray)=⟨(Nm.nb s.size).toArray⟩++s:=by
    apply Nm.ZG;simp [Im.tb]
   rw [e1];exact ZpD s w hn
  ·rw [if_neg hn,if_neg hn];exact Ztc s w hs (by omega)
 have hz:(Im.tW s).length<=520:=by
  unfold Im.tW;by_cases hn:s.size<=512
  ·rw [if_pos hn];have:=Nm.Zt s.size (by omega);have h2:=Im.Zj s;unfold Im.tb;rw [List.length_append];omega
  ·rw [if_neg hn];simp
 have C2:Hid (∀ w',Below w.heap.size w w'->Calls Tryz.prog 120 #[.pointer (some ⟨p,0,none⟩),.string ⟨(Im.tW s).toArray⟩,.int .i64 (Im.tE s)] w' fun e w2=>ZcF B p w' v (l++Im.tW s) (Im.er1 er (Im.tE s)) e w2):=fun w' h9=>by
  have:=Zhn B p w' v l er ⟨(Im.tW s).toArray⟩ (Im.tE s) (h.below h9) (by show l.length+(Im.tW s).toArray.size<=_;simp;omega);simpa [Im.er1] using this
 generalize Im.tW s=L at *;generalize Im.er1 er (Im.tE s)=R at *;generalize Im.tE s=E at *;clear h;go_enter Tryz.func80,Tryz.ntmps80
 go_wp2_with fail
 refine C1.mono ?_;rintro e w1 ⟨rfl,G⟩;go_wp2_with fail
 refine (C2.out _ G).mono ?_;rintro e w2 ⟨rfl,G2,v',h',F'⟩;have G3:Below B w w2:=(G.mono hB).trans G2;have F3:=(WF.of (p:=p) (v:=v) G).trans F';go_wp2_with fail
 go_end0
 exact ⟨rfl,G3,_,h',F3⟩
theorem ZgO (B p:Nat) (w:World) (v:Value) (l:List UInt8) (er:Int) (s:ByteArray) (h:Wtr B p w v l er) (hl:l.length+5+s.size<=140737488355328) :
 Calls Tryz.prog 81 #[.pointer (some ⟨p,0,none⟩),.string s] w fun e w'=>ZcF B p w v (l++Im.nW (s.size:Int)++s.data.toList) (Im.er1 er (Im.nE (s.size:Int))) e w':=by
 have hz:(Im.nW (s.size:Int)).length<=5:=by
  unfold Im.nW;by_cases hn:0<=(s.size:Int)/\(s.size:Int)<=2147483647
  ·rw [if_pos hn];exact Nm.Zt _ (by omega)
  ·rw [if_neg hn];simp
 have C1:=Zcf B p w v l er (s.size:Int) h (by omega);have C2:Hid (∀ w' v',Wtr B p w' v' (l++Im.nW (s.size:Int)) (Im.er1 er (Im.nE (s.size:Int)))->Calls Tryz.prog 111 #[.pointer (some ⟨p,0,none⟩),.string s] w' fun e w2=>ZcF B p w' v' (l++Im.nW (s.size:Int)++s.data.toList) (Im.er1 er (Im.nE (s.size:Int))) e w2):=fun w' v' h9=>ZbC B p w' v' _ _ s h9 (by rw [List.length_append];omega)
 generalize Im.er1 er (Im.nE (s.size:Int))=R at *;generalize l++Im.nW (s.size:Int)++s.data.toList=L2 at *;generalize l++Im.nW (s.size:Int)=L1 at *;clear h hz;go_enter Tryz.func81,Tryz.ntmps81
 go_wp2_with fail
 refine C1.mono ?_;rintro e w1 ⟨rfl,G,v1,h1,F1⟩;go_wp2_with fail
 refine (C2.out _ _ h1).mono ?_;rintro e w2 ⟨rfl,G2,v',h',F'⟩;have G3:=G.trans G2;have F3:=F1.trans F';go_wp2_with fail
 go_end0
 exact ⟨rfl,G3,_,h',F3⟩
theorem ZjL (w:World):∀ k,Below w.heap.size w (w.drewN k)
 | 0=>bR _ _
 | k+1=>by rw [show w.drewN (k+1)=(w.drewN k).drew from rfl];exact (ZjL w k).drew
theorem ZeM (B p:Nat) (w:World) (v:Value) (l:List UInt8) (er:Int) (h:Wtr B p w v l er) :
 Calls Tryz.prog 72 #[.pointer (some ⟨p,0,none⟩)] w fun e w'=>e=.returned (.tuple #[.string (if er=0 then ⟨l.toArray⟩ else ⟨#[]⟩),.int .i64 er])/\Below w.heap.size w w':=by
 have c1:=h.c1;by_cases he:er=0
 ·subst he;rw [if_pos rfl];have C:=Zfg B p w v l 0 h;clear h;go_enter Tryz.func72,Tryz.ntmps72
  go_wp2_with fail
  refine C.mono ?_;rintro e w1 ⟨rfl,G⟩;go_wp2_with fail
  go_ret2
  exact ⟨rfl,G⟩
 ·rw [if_neg he];have d1:(er == 0)=false:=by simpa using he
  clear h;go_enter Tryz.func72,Tryz.ntmps72
  go_wp2_with fail
  go_quiet (fail)
  go_wp2_with fail
  go_ret2
  exact ⟨rfl,ZjL _ _⟩
theorem ZoO (w:World) (T:TypeId):Wtr w.heap.size w.heap.size (w.alloc (.cells #[.slice none 0 0,.int .i64 0] T (0,0))) (.slice none 0 0) [] 0 :=
 ⟨Nat.le_refl _,by simp,World.cell?_alloc_new _ _ _ 0,World.cell?_alloc_new _ _ _ 1,World.frozen?_alloc_at _ _ _ _ rfl,World.frozen?_alloc_at _ _ _ _ rfl,Own8.nil _ _,by simp [Value.ownBlock]⟩
namespace Im
def wL (x:Act):List UInt8:=(([]++nW x.kind)++nW x.n)++tW x.name++tW x.text
def wE (x:Act):Int:=er1 (er1 (er1 (er1 0 (nE x.kind)) (nE x.n)) (tE x.name)) (tE x.text)
theorem Zvs (x:Act):wE x=actE x:=by
 unfold wE actE er1 nE tE In;by_cases h1:0<=x.kind/\x.kind<=2147483647
 ·by_cases h2:0<=x.n/\x.n<=2147483647
  ·by_cases h3:x.name.size<=512
   ·by_cases h4:x.text.size<=512
    ·simp [h1,h2,h3,h4]
    ·simp [h1,h2,h3,h4]
   ·simp [h1,h2,h3]
  ·simp [h1,h2]
 ·simp [h1]
theorem Zve {x:Act} (h:okX x):wL x=Zbl x:=by
 obtain ⟨h1,h2,h3,h4⟩:=h;unfold wL Zbl nW tW;unfold In at h1 h2;rw [if_pos h1,if_pos h2,if_pos h3,if_pos h4];simp
theorem Zre (n:Int):(nW n).length<=5:=by
 unfold nW;split
 ·exact Nm.Zt _ (by omega)
 ·simp
theorem ZqV (s:ByteArray):(tW s).length<=520:=by
 unfold tW;split
 ·unfold tb;have:=Nm.Zt s.size (by omega);rw [List.length_append,<-Zj];omega
 ·simp
end Im
theorem ZdH (k n:Int) (nm tx:ByteArray) (w:World) (hn:nm.size<=281474976710656) (ht:tx.size<=281474976710656) :
 Calls Tryz.prog 39 #[.agg #[.int .i64 k,.int .i64 n,.string nm,.string tx]] w fun e w'=>e=.returned (.tuple #[.string (Im.wrtT ⟨k,n,nm,tx⟩),.int .i64 (Im.actE ⟨k,n,nm,tx⟩)])/\Below w.heap.size w w':=by
 have B1:=Za w (.cells #[.int .i64 k,.int .i64 n,.string nm,.string tx] 54 (0,0));have X1:=XB.new w 54 k n nm tx;have G2:=Za (w.alloc (.cells #[.int .i64 k,.int .i64 n,.string nm,.string tx] 54 (0,0))) (.cells #[.slice none 0 0,.int .i64 0] 97 (0,0));have T:=ZoO (w.alloc (.cells #[.int .i64 k,.int .i64 n,.string nm,.string tx] 54 (0,0))) 97;have X:=X1.next G2;have B:=bch B1 G2 (Nat.le_refl _);rw [show (w.alloc (.cells #[.int .i64 k,.int .i64 n,.string nm,.string tx] 54 (0,0))).heap.size=w.heap.size+1 by simp] at T;have l1:=Im.Zre k;have l2:=Im.Zre n;have l3:=Im.ZqV nm;have l4:=Im.ZqV tx;have C1:Hid (∀ w' v,Wtr (w.heap.size+1) (w.heap.size+1) w' v [] 0->_):=fun w' v h=>Zcf (w.heap.size+1) (w.heap.size+1) w' v [] 0 k h (by simp)
 have C2:Hid (∀ w' v,Wtr (w.heap.size+1) (w.heap.size+1) w' v ([]++Im.nW k) (Im.er1 0 (Im.nE k))->_):=fun w' v h=>Zcf (w.heap.size+1) (w.heap.size+1) w' v ([]++Im.nW k) (Im.er1 0 (Im.nE k)) n h (by simp;omega)
 have C3:Hid (∀ w' v,Wtr (w.heap.size+1) (w.heap.size+1) w' v (([]++Im.nW k)++Im.nW n) (Im.er1 (Im.er1 0 (Im.nE k)) (Im.nE n))->_):=fun w' v h=>ZhL (w.heap.size+1) (w.heap.size+1) w' v _ _ nm h (by simp;omega) hn
 have C4:Hid (∀ w' v,Wtr (w.heap.size+1) (w.heap.size+1) w' v ((([]++Im.nW k)++Im.nW n)++Im.tW nm) (Im.er1 (Im.er1 (Im.er1 0 (Im.nE k)) (Im.nE n)) (Im.tE nm))->_):=fun w' v h=>ZhL (w.heap.size+1) (w.heap.size+1) w' v _ _ tx h (by simp;omega) ht
 have C5:Hid (∀ w' v,Wtr (w.heap.size+1) (w.heap.size+1) w' v (Im.wL ⟨k,n,nm,tx⟩) (Im.wE ⟨k,n,nm,tx⟩)->_):=fun w' v h=>ZeM (w.heap.size+1) (w.heap.size+1) w' v _ _ h
 have HL:Hid (Im.wL ⟨k,n,nm,tx⟩=((([]++Im.nW k)++Im.nW n)++Im.tW nm)++Im.tW tx):=rfl;have HE:Hid (Im.wE ⟨k,n,nm,tx⟩=Im.er1 (Im.er1 (Im.er1 (Im.er1 0 (Im.nE k)) (Im.nE n)) (Im.tE nm)) (Im.tE tx)):=rfl;have HW:=Im.Zvs ⟨k,n,nm,tx⟩
 have HOK:Hid (Im.actE ⟨k,n,nm,tx⟩=0->Im.wL ⟨k,n,nm,tx⟩=Im.Zbl ⟨k,n,nm,tx⟩/\(Im.Zbl ⟨k,n,nm,tx⟩).length<=1044/\Im.wrtT ⟨k,n,nm,tx⟩=⟨(Im.actB ⟨k,n,nm,tx⟩).toArray⟩):=fun h0=>⟨Im.Zve (Im.Zbt.1 h0),Im.ZcK (Im.Zbt.1 h0),by unfold Im.wrtT;rw [if_pos h0]⟩
 have HNO:Hid (Im.actE ⟨k,n,nm,tx⟩ ≠ 0->Im.wrtT ⟨k,n,nm,tx⟩=⟨#[]⟩):=fun h0=>by unfold Im.wrtT;rw [if_neg h0]
 rw [HW] at C5 HE;have HB:Hid (Im.actB ⟨k,n,nm,tx⟩=Nm.nb (Im.Zbl ⟨k,n,nm,tx⟩).length++Im.Zbl ⟨k,n,nm,tx⟩):=rfl;clear HW B1 X1 G2 l1 l2 l3 l4 hn ht;generalize Im.wL ⟨k,n,nm,tx⟩=L at *;generalize Im.actE ⟨k,n,nm,tx⟩=E at *;generalize Im.Zbl ⟨k,n,nm,tx⟩=I at *;generalize Im.actB ⟨k,n,nm,tx⟩=AB at *;generalize Im.wrtT ⟨k,n,nm,tx⟩=R at *;generalize ([]++Im.nW k)=L1 at *;generalize Im.er1 0 (Im.nE k)=E1 at *;generalize (L1++Im.nW n)=L2 at *;generalize Im.er1 E1 (Im.nE n)=E2 at *;generalize (L2++Im.tW nm)=L3 at *;generalize Im.er1 E2 (Im.tE nm)=E3 at *;obtain ⟨x0,x1,x2,x3,_⟩:=id X;go_enter Tryz.func39,Tryz.ntmps39
 go_wp2_with fail
 clear x0 x1 x2 x3;generalize ((w.alloc (.cells #[.int .i64 k,.int .i64 n,.string nm,.string tx] 54 (0,0))).alloc (.cells #[.slice none 0 0,.int .i64 0] 97 (0,0)))=w0 at *;refine (C1.out _ _ T).mono ?_;rintro e w1 ⟨rfl,G,v1,T',_⟩;have T:=T';have X:=X.block (G.block w.heap.size (by omega));have B:=B.trans (G.mono (by omega));clear T' G C1;obtain ⟨x0,x1,x2,x3,_⟩:=id X;go_wp2_with fail
 clear x0 x1 x2 x3;refine (C2.out _ _ T).mono ?_;rintro e w2 ⟨rfl,G,v2,T',_⟩;have T:=T';have X:=X.block (G.block w.heap.size (by omega));have B:=B.trans (G.mono (by omega));clear T' G C2;obtain ⟨x0,x1,x2,x3,_⟩:=id X;go_wp2_with fail
 clear x0 x1 x2 x3;refine (C3.out _ _ T).mono ?_;rintro e w3 ⟨rfl,G,v3,T',_⟩;have T:=T';have X:=X.block (G.block w.heap.size (by omega));have B:=B.trans (G.mono (by omega));clear T' G C3;obtain ⟨x0,x1,x2,x3,_⟩:=id X;go_wp2_with fail
 clear x0 x1 x2 x3;refine (C4.out _ _ T).mono ?_;rintro e w4 ⟨rfl,G,v4,T',_⟩;have T:=T';rw [<-HL.out,<-HE.out] at T;have X:=X.block (G.block w.heap.size (by omega));have B:=B.trans (G.mono (by omega));clear T' G C4;obtain ⟨x0,x1,x2,x3,_⟩:=id X;go_wp2_with fail
 clear x0 x1 x2 x3;refine (C5.out _ _ T).mono ?_;rintro e w5 ⟨rfl,G⟩;have B:=bch B G (nl _);clear G C5 T X HL HE;by_cases h0:E=0
 ·obtain ⟨e1,e2,e3⟩:=HOK.out h0;subst h0;rw [if_pos rfl,e1]
  have HR:=(show Hid _ from e3)
  clear HOK HNO e1 e3;have T:=ZoO w5 97;have GA:=Za w5 (.cells #[.slice none 0 0,.int .i64 0] 97 (0,0));have C6:=ZgO w5.heap.size w5.heap.size _ _ [] 0 ⟨I.toArray⟩ T (by rw [Im.Zj];simp;omega);have hI:((⟨I.toArray⟩:ByteArray).size:Int)=(I.length:Int):=by rw [Im.Zj]
  have hin:0<=(I.length:Int)/\(I.length:Int)<=2147483647:=⟨by omega,by omega⟩
  rw [hI,show Im.nW (I.length:Int)=Nm.nb I.length by unfold Im.nW;rw [if_pos hin,Int.toNat_natCast],show Im.er1 0 (Im.nE (I.length:Int))=0 by unfold Im.er1 Im.nE;rw [if_pos rfl,if_pos hin],show ([]++Nm.nb I.length++(⟨I.toArray⟩:ByteArray).data.toList)=AB by rw [HB.out];simp] at C6;clear hI hin HB e2;generalize (⟨I.toArray⟩:ByteArray)=S at *;go_wp2_with fail
  generalize (w5.alloc (.cells #[.slice none 0 0,.int .i64 0] 97 (0,0)))=w6 at *;refine C6.mono ?_;rintro e w7 ⟨rfl,G,v7,T7,_⟩;go_wp2_with fail
  have C7:=ZeM _ _ w7 v7 AB 0 T7;rw [if_pos rfl] at C7;refine C7.mono ?_;rintro e w8 ⟨rfl,G8⟩;go_wp2_with fail
  go_ret2
  exact ⟨by rw [HR.out];rfl,bch (bch B (GA.trans G) (nl _)) G8 (nl _)⟩
 ·rw [if_neg h0]
  have HR:=(show Hid _ from HNO.out h0)
  have dE:(E == 0)=false:=by simpa using h0
  go_wp2_with fail
  go_ret2
  exact ⟨by rw [HR.out];rfl,B⟩
end Go.Proofs.YtbjbjbpgmojcbabGreat
