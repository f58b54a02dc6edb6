/- A part of the proof: what it leans on. -/
import Derived.Test.YtbjbjbpgmojcbacGreatLk35
import Derived.Test.YtbjbjbpgmojcbacGreatLk37
set_option maxRecDepth 8000
set_option maxHeartbeats 8000000
namespace Go.Proofs.YtbjbjbpgmojcbacGreat
open Go.RowKit
theorem ZfK (ad af:Option Addr) (cd cf:Nat) (a:Ar.A) (w:World) (h:ArV w ad af a) (hs:SaneA a) (hc:Ar.chk a ≠ 0) :
 Calls Tryz.prog 17 #[av ad cd af cf a] w fun e w'=>ArSaid w Ar.az (Ar.chk a) e w':=by
 have C1:Hid (∀ w',Below w.heap.size w w'->Calls Tryz.prog 36 #[av ad cd af cf a] w' fun e w2=>e=.returned (.int .i64 (Ar.chk a))/\Below w'.heap.size w' w2):=fun w' h9=>Zr ad af cd cf a w' (h.below h9) hs
 have hQ:Hid (∀ w',Below w.heap.size w w'->ArSaid w Ar.az (Ar.chk a) (.returned (.tuple #[.agg #[.slice none 0 0,.slice none 0 0],.int .i64 (Ar.chk a)])) w'):=fun w' h9=>Zx h9
 generalize ArSaid w Ar.az (Ar.chk a)=Q at *;unfold av at C1 |-
 generalize Ar.chk a=E at *;have e1:(E != 0)=true:=by simpa using hc
 have e2:(E == 0)=false:=by simpa using hc
 generalize a.dicts.length=D at *;generalize a.files.length=N at *;clear h hs hc;go_enter Tryz.func17,Tryz.ntmps17
 go_wp2_with fail
 refine (C1.out _ (Fr.start w _ _).b).mono ?_;rintro e w1 ⟨rfl,G1⟩;have F1:=(Fr.start w _ _).next G1;clear G1;obtain ⟨b,a0,a1,r0,r1,z0,z1,hz⟩:=id F1;go_wp2_with fail
 rw [F1.zero];exact bodyPost_ret (v:=.tuple #[.agg #[.slice none 0 0,.slice none 0 0],.int .i64 E]) (by simp [results,Tryz.results17,go_sem,F1.r0,F1.r1]) rfl (hQ.out _ F1.b)
theorem ZgR (ad af:Option Addr) (cd cf:Nat) (a:Ar.A) (w:World) (h:ArV w ad af a) (hs:SaneA a) (hc:Ar.chk a=0) :
 Calls Tryz.prog 17 #[av ad cd af cf a] w fun e w'=>ArSaid w ⟨Ar.cpD a a.dicts.length,a.files.map (Ar.cpF a a.dicts.length)⟩ 0 e w':=by
 obtain ⟨i0,hi,hz0,hz1,hz2⟩:=info_parts (P:=Tryz.prog) (e:=9) (z:=.string ⟨#[]⟩) (size:=1) (bytes:=16) (by kernel_rfl);obtain ⟨j0,gi,gz0,gz1,gz2⟩:=info_parts (P:=Tryz.prog) (e:=47) (z:=.agg #[.string ⟨#[]⟩,.int .i64 0,.int .i64 0,.int .i64 0,.string ⟨#[]⟩]) (size:=5) (bytes:=56) (by kernel_rfl);obtain ⟨m1,m2,m3⟩:=Ar.Zw.1 (Ar.Ze.1 hc).1;have C1:Hid (∀ w',Below w.heap.size w w'->Calls Tryz.prog 36 #[av ad cd af cf a] w' fun e w2=>e=.returned (.int .i64 (Ar.chk a))/\Below w'.heap.size w' w2):=fun w' h9=>Zr ad af cd cf a w' (h.below h9) hs
 have HX:Hid (∀ w',Below w.heap.size w w'->∀ k,k<a.dicts.length->∃ b off,ad=some ⟨b,off,none⟩/\b<w'.heap.size/\w'.cell? ⟨b,off+k,none⟩=some (.string (Tr.xa a.dicts k))):=fun w' hb k hk=>(h.ds.below hb).at hk
 have HFl:Hid (∀ w',Below w.heap.size w w'->∀ k,k<a.files.length->∃ b off,af=some ⟨b,off,none⟩/\b<w'.heap.size/\w'.cell? ⟨b,off+k*5+1,none⟩=some (.int .i64 (Ar.fa a.files k).dict)):=fun w' h9 k hk=>by
  obtain ⟨b,off,h1,h2,h3⟩:=(h.fs.below h9).at hk;exact ⟨b,off,h1,h2,h3.c1⟩
 have HFn:Hid (∀ w',Below w.heap.size w w'->(a.files.length=0\/∃ b,af=some b/\∀ j u,(fcs a.files)[j]?=some u->w'.cell? (b.add j)=some u)):=fun w' h9=>(h.fs.below h9).news
 have HF1:Hid ((fcs a.files).length=a.files.length*5):=Zag _;have HF2:Hid (∀ u ∈ fcs a.files,u.oneCell'=true):=ZeF _;rw [hc] at C1;unfold av at C1 |-
 obtain ⟨D,hD⟩:∃ D,a.dicts.length=D:=⟨_,rfl⟩
 obtain ⟨N,hN⟩:∃ N,a.files.length=N:=⟨_,rfl⟩
 have HNN:Hid (a.files.length=N):=hN;rw [hD] at C1 HX m1 |-
 rw [hN] at C1 HFl HFn HF1 m2 |-
 have hQ:Hid (∀ v1 v2 w',w'.ownsRow w.heap.size 9 1 v1 (Ar.cpD a D).length ((Ar.cpD a D).map Value.string)->w'.ownsRow w.heap.size 47 5 v2 N (fcs (a.files.map (Ar.cpF a D)))->(∀ j,v1.ownBlock=some j->v2.ownBlock ≠ some j)->Below w.heap.size w w'->ArSaid w ⟨Ar.cpD a D,a.files.map (Ar.cpF a D)⟩ 0 (.returned (.tuple #[.agg #[v1,v2],.int .i64 0])) w'):=fun v1 v2 w' k1 k2 k3 k4=>⟨v1,v2,rfl,⟨k1,by show w'.ownsRow _ _ _ _ (a.files.map (Ar.cpF a D)).length _;rw [List.length_map,hN];exact k2,k3⟩,k4⟩
 generalize ArSaid w ⟨Ar.cpD a D,a.files.map (Ar.cpF a D)⟩ 0=Q at *;have HI0:Hid (∀ k,fcs (a.files.map (Ar.cpF a k))=fcs (Ar.cpI a k 0)):=fun k=>by rw [Ar.Zjl]
 have HIN:Hid (∀ k,fcs (Ar.cpI a k N)=fcs (a.files.map (Ar.cpF a (k+1)))):=fun k=>by rw [<-hN,Ar.ZnS]
 have H0:Hid (fcs (a.files.map (Ar.cpF a 0))=fcs a.files):=by show _=_;rw [ZoJ]
 clear h hs hc m3 hD hN;have hDi:(D:Int)<=4:=by omega
 have hNi:(N:Int)<=12:=by omega
 generalize hFS:fcs a.files=FS at *;clear hFS;go_enter Tryz.func17,Tryz.ntmps17
 go_wp2_with fail
 refine (C1.out _ (Fr.start w _ _).b).mono ?_;rintro e w3 ⟨rfl,G1⟩;have F1:=(Fr.start w _ _).next G1;clear G1 C1;obtain ⟨b,a0,a1,r0,r1,z0,z1,hz⟩:=id F1;have hz9:w.heap.size<w3.heap.size:=by omega
 have O0:=Zco w3 w3.heap.size 47 5 (nl _);have hD2:=HFn.out _ (F1.b.alloc (by have:=F1.b.size;omega) (.cells #[] 47 (0,0)));have hds1:=HF1.out;have hds2:=HF2.out
 go_wp2_with (first
  | (at_builtin;refine Zac rfl _ _ 31 rfl w3.heap.size 47 j0 (.agg #[.string ⟨#[]⟩,.int .i64 0,.int .i64 0,.int .i64 0,.string ⟨#[]⟩]) 5 56 U31 gi gz0 gz1 gz2 rfl (by decide) w3.heap.size 0 0 [] rfl O0 af N cf FS rfl hds1 hD2 hds2 (by unfold maxLen;omega) (by omega) (by simp) _ rfl ?_;intro g2 cp2 w5 hown5 hgrow5 hat5)
  | fail)
 have BX:Below w3.heap.size w3 w5:=((bR _ _).alloc (nl _) _).grown hgrow5 (by simp) (fun j hj=>by simp at hj;omega);simp only [Nat.zero_add,List.nil_append] at hown5 |-
 have S0:=CpS.new2 BX BX.size hown5;clear O0 hD2 hds1 hds2 hgrow5 hat5 hown5 HFn HF1 HF2 BX a0 a1 r0 r1 z0 z1 b;generalize (w5.alloc (.cells #[.slice none 0 0,.slice (some ⟨g2,0,none⟩) N cp2] 33 (0,0)))=w6 at *;generalize w5.heap.size=C at *;go_loopw [6] (fun i wr=>∃ (k:Nat) (v1:Value),k<=D/\i=.int .i64 ((k:Int)+1)/\CpS w3 wr C w3.heap.size v1 (.slice (some ⟨g2,0,none⟩) N cp2) (Ar.cpD a k).length N ((Ar.cpD a k).map Value.string) (fcs (a.files.map (Ar.cpF a k)))) (fun i _=>D+1 - (intOf i).toNat)
 case atStart=>exact ⟨0,_,by omega,rfl,by rw [H0.out];exact S0⟩
 case round =>
  clear S0;obtain ⟨k,v1,hk2,rfl,S1⟩:=hrel;have F7:=F1.keep S1.bel hz;obtain ⟨B7,a0,a1,r0,r1,z0,z1,hz7⟩:=id F7;by_cases hlt:k<D
  ·have d1:decide ((k:Int)+1<=(D:Int))=true:=zdT (by omega);have hki:(k:Int)+1<=(D:Int):=by omega
   have hkD:(k:Int)<(D:Int):=by omega
   have hwk2:IntKind.i64.wrap (k:Int)=(k:Int):=IntWalk.i64_in _ ⟨by omega,by omega⟩;have hwk:IntKind.i64.wrap ((k:Int)+1 - 1)=(k:Int):=by rw [show (k:Int)+1 - 1=(k:Int) by omega];exact IntWalk.i64_in _ ⟨by omega,by omega⟩
   obtain ⟨b9,off,rfl,hbl,hc⟩:=HX.out wr B7 k hlt;generalize hX:Tr.xa a.dicts k=X at *;have HXX:Hid (Tr.xa a.dicts k=X):=hX;clear hX;have HAk:Hid (∀ m,Ar.anyK a.files ((k:Int)+1) (m+1)=(Ar.anyK a.files ((k:Int)+1) m || decide ((Ar.fa a.files m).dict=(k:Int)+1))):=fun m=>rfl
   have HA0:Hid (Ar.anyK a.files ((k:Int)+1) 0=false):=rfl;have HAN:Hid (Ar.anyK a.files ((k:Int)+1) N=Ar.used a ((k+1:Nat):Int)):=by show _=_;rw [<-HNN.out];exact Znl
   generalize Ar.anyK a.files ((k:Int)+1)=ak at *;go_wp2_with fail
   generalize hwr:wr=wk at *;clear hwr;go_loopw [7,8] (fun u i w'=>∃ m:Nat,m<=N/\u=.bool (ak m)/\i=.int .i64 m/\w'=wk) (fun _ i _=>N - (intOf i).toNat)
   case atStart=>exact ⟨0,by omega,by rw [HA0.out],rfl,rfl⟩
   case round =>
    obtain ⟨m,hm2,rfl,rfl,hwr⟩:=hrel;have hwr:=hwr.symm;subst hwr;by_cases hlm:m<N
    ·have d2:decide ((m:Int)<(N:Int))=true:=zdT (by omega);have d2':decide (m<N)=true:=zdT hlm;have hmi:(m:Int)<(N:Int):=by omega
     obtain ⟨bf,of,rfl,hbf,c1⟩:=HFl.out _ B7 m hlm;have HAm:=Zar (HAk.out m);generalize (Ar.fa a.files m).dict=f1 at *
     cases hu:ak m with
     | true =>
      have HN:Hid (ak (m+1)=true):=by show _=_;rw [HAm.out,hu];rfl
      clear hu HAm;go_wp2_with fail
      go_roundw
      case rel=>exact ⟨m+1,by omega,by rw [HN.out],by go_num,by trivial⟩
      case measure=>simp [intOf];omega
     | false =>
      by_cases hdx:f1=(k:Int)+1
      ·have HN:Hid (ak (m+1)=true):=by show _=_;rw [HAm.out,hu,decide_eq_true hdx];rfl
       subst hdx;clear hu HAm;go_wp2_with fail
       go_roundw
       case rel=>exact ⟨m+1,by omega,by rw [HN.out],by go_num,by trivial⟩
       case measure=>simp [intOf];omega
      ·have HN:Hid (ak (m+1)=false):=by show _=_;rw [HAm.out,hu,decide_eq_false hdx];rfl
       have e1:(f1 == ((k:Int)+1))=false:=by simpa using hdx
       clear hu HAm;go_wp2_with fail
       go_roundw
       case rel=>exact ⟨m+1,by omega,by rw [HN.out],by go_num,by trivial⟩
       case measure=>simp [intOf];omega
    ·obtain rfl:m=N:=by omega
     have d2:decide ((m:Int)<(m:Int))=false:=by simp
     have hak:=HAN.out;rw [hak];clear hak HAk HA0 HAN
     cases hu:Ar.used a ((k+1:Nat):Int) with
     | false =>
      obtain ⟨e1,e2⟩:=Ar.ZmI hu;have HE1:Hid (Ar.cpD a (k+1)=Ar.cpD a k):=e1;have HE2:Hid (a.files.map (Ar.cpF a (k+1))=a.files.map (Ar.cpF a k)):=e2;clear e1 e2 hu;go_wp2_with fail
      go_roundw
      case rel=>exact ⟨k+1,v1,by omega,by go_num,by rw [HE1.out,HE2.out];exact S1⟩
      case measure=>simp [intOf];omega
     | true =>
      have HE1:Hid (Ar.cpD a (k+1)=Ar.cpD a k++[X]):=by show _=_;rw [Ar.ZlI hu,HXX.out]
      clear hu
      obtain ⟨L,hL⟩:∃ L,(Ar.cpD a k).length=L:=⟨_,rfl⟩
      have hL4:L<=4:=by
       have e1:=Ar.Zch a k;have e2:=Ar.Zjd a k;omega
      have HL1:Hid ((Ar.cpD a (k+1)).length=L+1):=by show _=_;rw [HE1.out,List.length_append,hL];rfl
      have HM1:Hid ((Ar.cpD a (k+1)).map Value.string=(Ar.cpD a k).map Value.string++[.string X]):=by show _=_;rw [HE1.out,List.map_append];rfl
      have HY:Hid (∀ q,q<m->(Ar.fa a.files q).dict=(k:Int)+1->fcs (Ar.cpI a k (q+1))=fcs ((Ar.cpI a k q).take q++{ Ar.fa (Ar.cpI a k q) q with dict:=(L:Int)+1 } :: (Ar.cpI a k q).drop (q+1))):=fun q h1 h2=>by
       have e:((Ar.rkK a (k+1):Nat):Int)=(L:Int)+1:=by rw [<-Ar.Zch,HL1.out];rfl
       rw [Ar.ZnK (by rw [HNN.out];exact h1) h2,e]
      have HNo:Hid (∀ q,q<m->(Ar.fa a.files q).dict ≠ (k:Int)+1->fcs (Ar.cpI a k (q+1))=fcs (Ar.cpI a k q)):=fun q h1 h2=>by rw [Ar.ZqD (by rw [HNN.out];exact h1) h2]
      have HIl:Hid (∀ q,q<m->(Ar.cpI a k q).length=m):=fun q h1=>by rw [Ar.ZlO (by rw [HNN.out];omega),HNN.out]
      have HINk:Hid (fcs (Ar.cpI a k m)=fcs (a.files.map (Ar.cpF a (k+1)))):=HIN.out k;rw [hL,HI0.out] at S1;clear hL HE1 HXX;have c0S:=S1.c0;have f0S:=S1.f0;have hbC:=S1.hb;have hlC:=S1.hC;have hLi:(L:Int)<=4:=by omega
      generalize (Ar.cpD a k).map Value.string=XS at *;obtain ⟨p1,q1,rfl,_⟩:=Zi S1.o1;have S9:=S1.below ((bR _ _).drew);go_wp2_with fail
      go_region_law (first
       | (refine zsL _ rfl _ _ 30 rfl w3.heap.size 9 i0 (.string ⟨#[]⟩) 1 16 U30 hi hz0 hz1 hz2 rfl (by decide) _ _ _ rfl (S9.o1.alloc _) ⟨wk.drew.heap.size,0,none⟩ 1 1 [.string X] rfl rfl (cell_one_new _ _ _) (by simp [Value.oneCell']) (by decide) (by unfold maxLen;omega) (by omega) (by simp;omega) _ rfl ?_;intro g cp t5 hown5 hgrow5 hat5 hlt5;obtain ⟨⟨⟨qq1,qq2⟩,S5⟩,_⟩:=S9.put1 hgrow5 hown5 hat5;clear hgrow5 hown5 hat5 hlt5))
      all_goals
       clear S1 S9 c0S f0S hbC hlC qq1 qq2 a0 a1 r0 r1 z0 z1 F7 hz7 hc hbl B7;generalize (t5.setCell ⟨C,0,none⟩ (.slice (some ⟨g,0,none⟩) (L+1) cp))=wq at *;have Fq:=F1.keep S5.bel hz;have a1:=Fq.a1;clear Fq;go_wp2_with fail
       clear a1;go_loopw [9] (fun i w'=>∃ q:Nat,q<=m/\i=.int .i64 q/\CpS w3 w' C w3.heap.size (.slice (some ⟨g,0,none⟩) (L+1) cp) (.slice (some ⟨g2,0,none⟩) m cp2) (L+1) m (XS++[.string X]) (fcs (Ar.cpI a k q))) (fun i _=>m - (intOf i).toNat)
       case atStart=>exact ⟨0,by omega,rfl,S5⟩
       case round =>
        clear S5;obtain ⟨q,hq2,rfl,S6⟩:=hrel;have F8:=F1.keep S6.bel hz;obtain ⟨B8,a0,a1,r0,r1,z0,z1,hz8⟩:=id F8;by_cases hlq:q<m
        ·have d3:decide ((q:Int)<(m:Int))=true:=zdT (by omega);have d3':decide (q<m)=true:=zdT hlq;have hqi:(q:Int)<(m:Int):=by omega
         obtain ⟨bf,of,rfl,hbf,c1⟩:=HFl.out _ B8 q hlq;have hIl:=HIl.out q hlq;by_cases hd:(Ar.fa a.files q).dict=(k:Int)+1
         ·have HE:=Zar (HY.out q hlq hd);rw [<-hIl] at S6;obtain ⟨S8,t1,t2⟩:=CpS.set1 ((L:Int)+1) S6 (i:=q) (by omega);have c0:=S6.c0;have c1':=S6.c1;rw [hIl] at c1' S8;have e1:((Ar.fa a.files q).dict == ((k:Int)+1))=true:=by simpa using hd
          generalize (Ar.fa a.files q).dict=f1 at *;subst hd;clear S6 hIl;go_wp2_with fail
          go_roundw
          case rel=>exact ⟨q+1,by omega,by go_num,by rw [HE.out];exact S8⟩
          case measure=>simp [intOf];omega
         ·have HE:=Zar (HNo.out q hlq hd);have e1:((Ar.fa a.files q).dict == ((k:Int)+1))=false:=by simpa using hd
          generalize (Ar.fa a.files q).dict=f1 at *;clear hIl;go_wp2_with fail
          go_roundw
          case rel=>exact ⟨q+1,by omega,by go_num,by rw [HE.out];exact S6⟩
          case measure=>simp [intOf];omega
        ·obtain rfl:q=m:=by omega
         have d3:decide ((q:Int)<(q:Int))=false:=by simp
         rw [HINk.out,<-HM1.out,<-HL1.out] at S6;go_wp2_with fail
         go_roundw
         case rel=>exact ⟨k+1,_,by omega,by go_num,S6⟩
         case measure=>simp [intOf];omega
  ·obtain rfl:k=D:=by omega
   have d1:decide ((k:Int)+1<=(k:Int))=false:=dF (by omega);obtain ⟨Bz,Oz1,Oz2,Rz0,Rz1⟩:=ZaY F7.b S1.o1 S1.o2 hz F7.r0 F7.r1;have hfin:=hQ.out _ _ _ Oz1 Oz2 S1.ne Bz;obtain ⟨pp,qq,rfl,_⟩:=Zi S1.o1;have c0:=S1.c0;have c1:=S1.c1;have hC2:=S1.hb;clear S1 Oz1 Oz2 Bz hQ;go_wp2_with fail
   generalize (wr.setCell ⟨w.heap.size+1,0,none⟩ (.slice pp (Ar.cpD a k).length qq)).setCell ⟨w.heap.size+1,1,none⟩ (.slice (some ⟨g2,0,none⟩) N cp2)=wz at *;exact bodyPost_ret (v:=.tuple #[.agg #[.slice pp (Ar.cpD a k).length qq,.slice (some ⟨g2,0,none⟩) N cp2],.int .i64 0]) (by simp [results,Tryz.results17,go_sem,Rz0,Rz1]) rfl hfin
theorem ZfI (ad af:Option Addr) (cd cf:Nat) (a:Ar.A) (w:World) (h:ArV w ad af a) (hs:SaneA a) :
 Calls Tryz.prog 17 #[av ad cd af cf a] w fun e w'=>ArSaid w (Ar.cmpA a) (Ar.chk a) e w':=by
 by_cases hc:Ar.chk a=0
 ·rw [Ar.ZlQ hc,hc];exact ZgR ad af cd cf a w h hs hc
 ·have e:Ar.cmpA a=Ar.az:=by unfold Ar.cmpA;rw [if_neg hc]
  rw [e];exact ZfK ad af cd cf a w h hs hc
theorem Zay (w:World) (x y:Value) (o:Obj):Below w.heap.size w (((w.alloc (.cells #[x,y] 33 (0,0))).alloc o).alloc (.cells #[.slice none 0 0,.slice none 0 0] 33 (0,0)))/\Bx (((w.alloc (.cells #[x,y] 33 (0,0))).alloc o).alloc (.cells #[.slice none 0 0,.slice none 0 0] 33 (0,0))) (w.heap.size+2) (.slice none 0 0) (.slice none 0 0)/\Bx (((w.alloc (.cells #[x,y] 33 (0,0))).alloc o).alloc (.cells #[.slice none 0 0,.slice none 0 0] 33 (0,0))) w.heap.size x y:=by
 have B1:=Za w (.cells #[x,y] 33 (0,0));have B2:=Za (w.alloc (.cells #[x,y] 33 (0,0))) o;have B3:=Za ((w.alloc (.cells #[x,y] 33 (0,0))).alloc o) (.cells #[.slice none 0 0,.slice none 0 0] 33 (0,0));have X:=Bx.new ((w.alloc (.cells #[x,y] 33 (0,0))).alloc o) (.slice none 0 0) (.slice none 0 0);rw [show ((w.alloc (.cells #[x,y] 33 (0,0))).alloc o).heap.size=w.heap.size+2 by simp] at X;exact ⟨bch (bch B1 B2 (nl _)) B3 (nl _),X,((Bx.new w x y).next B2).next B3⟩
theorem ZrG (ad af:Option Addr) (cd cf D N:Nat) (A:Ar.A) (E n:Int) (name text:ByteArray) (w:World)
 (C:Hid (∀ w',Below w.heap.size w w'->Calls Tryz.prog 12 #[.agg #[.slice ad D cd,.slice af N cf],.string name,.string text,.int .i64 n] w' fun e w2=>ArSaid w' A E e w2)) :
 Calls Tryz.prog 21 #[.agg #[.slice ad D cd,.slice af N cf],.agg #[.int .i64 1,.int .i64 n,.string name,.string text]] w fun e w'=>ArSaid w A E e w':=by
 obtain ⟨B0,R0,_⟩:=Zay w (.slice ad D cd) (.slice af N cf) (.cells #[.int .i64 1,.int .i64 n,.string name,.string text] 29 (0,0));go_enter Tryz.func21,Tryz.ntmps21
 go_wp2_with fail
 generalize (((w.alloc (.cells #[.slice ad D cd,.slice af N cf] 33 (0,0))).alloc (.cells #[.int .i64 1,.int .i64 n,.string name,.string text] 29 (0,0))).alloc (.cells #[.slice none 0 0,.slice none 0 0] 33 (0,0)))=w0 at *;refine (C.out _ B0).mono ?_;intro e w1 h1;obtain ⟨p,q,p',q',rfl,O,G⟩:=h1.own;have R1:=R0.next G;have B1:=bch B0 G (nl _)
 have hfin:ArSaid w A E (.returned (.tuple #[.agg #[.slice p A.dicts.length q,.slice p' A.files.length q'],.int .i64 E])) _:=⟨_,_,rfl,(O.set2 (b:=w.heap.size+2) R0.lt (.slice p A.dicts.length q) (.slice p' A.files.length q')).low B0.size,Zu B1 (b:=w.heap.size+2) (by omega) (.slice p A.dicts.length q) (.slice p' A.files.length q')⟩
 clear R0 B0 C h1;generalize A.dicts.length=D2 at *;generalize A.files.length=N2 at *;have x0:=R1.c0;have x1:=R1.c1;have f0:=R1.f0;have f1:=R1.f1;have X5:=R1.set (u:=.slice p D2 q) (v:=.slice p' N2 q');clear R1 B1 G O;go_wp2_with fail
 clear x0 x1 f0 f1;have y0:=X5.c0;have y1:=X5.c1;generalize ((w1.setCell ⟨w.heap.size+2,0,none⟩ (.slice p D2 q)).setCell ⟨w.heap.size+2,1,none⟩ (.slice p' N2 q'))=wz at *;exact bodyPost_ret (v:=.tuple #[.agg #[.slice p D2 q,.slice p' N2 q'],.int .i64 E]) (by simp [results,Tryz.results21,go_sem,y0,y1]) rfl hfin
theorem Zrz (ad af:Option Addr) (cd cf D N:Nat) (A:Ar.A) (E n:Int) (name text:ByteArray) (w:World)
 (C:Hid (∀ w',Below w.heap.size w w'->Calls Tryz.prog 45 #[.agg #[.slice ad D cd,.slice af N cf],.string name] w' fun e w2=>ArSaid w' A E e w2)) :
 Calls Tryz.prog 21 #[.agg #[.slice ad D cd,.slice af N cf],.agg #[.int .i64 2,.int .i64 n,.string name,.string text]] w fun e w'=>ArSaid w A E e w':=by
 obtain ⟨B0,R0,_⟩:=Zay w (.slice ad D cd) (.slice af N cf) (.cells #[.int .i64 2,.int .i64 n,.string name,.string text] 29 (0,0));go_enter Tryz.func21,Tryz.ntmps21
 go_wp2_with fail
 generalize (((w.alloc (.cells #[.slice ad D cd,.slice af N cf] 33 (0,0))).alloc (.cells #[.int .i64 2,.int .i64 n,.string name,.string text] 29 (0,0))).alloc (.cells #[.slice none 0 0,.slice none 0 0] 33 (0,0)))=w0 at *;refine (C.out _ B0).mono ?_;intro e w1 h1;obtain ⟨p,q,p',q',rfl,O,G⟩:=h1.own;have R1:=R0.next G;have B1:=bch B0 G (nl _)
 have hfin:ArSaid w A E (.returned (.tuple #[.agg #[.slice p A.dicts.length q,.slice p' A.files.length q'],.int .i64 E])) _:=⟨_,_,rfl,(O.set2 (b:=w.heap.size+2) R0.lt (.slice p A.dicts.length q) (.slice p' A.files.length q')).low B0.size,Zu B1 (b:=w.heap.size+2) (by omega) (.slice p A.dicts.length q) (.slice p' A.files.length q')⟩
 clear R0 B0 C h1;generalize A.dicts.length=D2 at *;generalize A.files.length=N2 at *;have x0:=R1.c0;have x1:=R1.c1;have f0:=R1.f0;have f1:=R1.f1;have X5:=R1.set (u:=.slice p D2 q) (v:=.slice p' N2 q');clear R1 B1 G O;go_wp2_with fail
 clear x0 x1 f0 f1;have y0:=X5.c0;have y1:=X5.c1;generalize ((w1.setCell ⟨w.heap.size+2,0,none⟩ (.slice p D2 q)).setCell ⟨w.heap.size+2,1,none⟩ (.slice p' N2 q'))=wz at *;exact bodyPost_ret (v:=.tuple #[.agg #[.slice p D2 q,.slice p' N2 q'],.int .i64 E]) (by simp [results,Tryz.results21,go_sem,y0,y1]) rfl hfin
theorem Zrr (ad af:Option Addr) (cd cf D N:Nat) (A:Ar.A) (E n:Int) (name text:ByteArray) (w:World)
 (C:Hid (∀ w',Below w.heap.size w w'->Calls Tryz.prog 13 #[.agg #[.slice ad D cd,.slice af N cf],.int .i64 n] w' fun e w2=>ArSaid w' A E e w2)) :
 Calls Tryz.prog 21 #[.agg #[.slice ad D cd,.slice af N cf],.agg #[.int .i64 3,.int .i64 n,.string name,.string text]] w fun e w'=>ArSaid w A E e w':=by
 obtain ⟨B0,R0,_⟩:=Zay w (.slice ad D cd) (.slice af N cf) (.cells #[.int .i64 3,.int .i64 n,.string name,.string text] 29 (0,0));go_enter Tryz.func21,Tryz.ntmps21
 go_wp2_with fail
 generalize (((w.alloc (.cells #[.slice ad D cd,.slice af N cf] 33 (0,0))).alloc (.cells #[.int .i64 3,.int .i64 n,.string name,.string text] 29 (0,0))).alloc (.cells #[.slice none 0 0,.slice none 0 0] 33 (0,0)))=w0 at *;refine (C.out _ B0).mono ?_;intro e w1 h1;obtain ⟨p,q,p',q',rfl,O,G⟩:=h1.own;have R1:=R0.next G;have B1:=bch B0 G (nl _)
 have hfin:ArSaid w A E (.returned (.tuple #[.agg #[.slice p A.dicts.length q,.slice p' A.files.length q'],.int .i64 E])) _:=⟨_,_,rfl,(O.set2 (b:=w.heap.size+2) R0.lt (.slice p A.dicts.length q) (.slice p' A.files.length q')).low B0.size,Zu B1 (b:=w.heap.size+2) (by omega) (.slice p A.dicts.length q) (.slice p' A.files.length q')⟩
 clear R0 B0 C h1;generalize A.dicts.length=D2 at *;generalize A.files.length=N2 at *;have x0:=R1.c0;have x1:=R1.c1;have f0:=R1.f0;have f1:=R1.f1;have X5:=R1.set (u:=.slice p D2 q) (v:=.slice p' N2 q');clear R1 B1 G O;go_wp2_with fail
 clear x0 x1 f0 f1;have y0:=X5.c0;have y1:=X5.c1;generalize ((w1.setCell ⟨w.heap.size+2,0,none⟩ (.slice p D2 q)).setCell ⟨w.heap.size+2,1,none⟩ (.slice p' N2 q'))=wz at *;exact bodyPost_ret (v:=.tuple #[.agg #[.slice p D2 q,.slice p' N2 q'],.int .i64 E]) (by simp [results,Tryz.results21,go_sem,y0,y1]) rfl hfin
theorem ZrP (ad af:Option Addr) (cd cf D N:Nat) (A:Ar.A) (E n:Int) (name text:ByteArray) (w:World)
 (C:Hid (∀ w',Below w.heap.size w w'->Calls Tryz.prog 14 #[.agg #[.slice ad D cd,.slice af N cf]] w' fun e w2=>ArSaid w' A E e w2)) :
 Calls Tryz.prog 21 #[.agg #[.slice ad D cd,.slice af N cf],.agg #[.int .i64 4,.int .i64 n,.string name,.string text]] w fun e w'=>ArSaid w A E e w':=by
 obtain ⟨B0,R0,_⟩:=Zay w (.slice ad D cd) (.slice af N cf) (.cells #[.int .i64 4,.int .i64 n,.string name,.string text] 29 (0,0));go_enter Tryz.func21,Tryz.ntmps21
 go_wp2_with fail
 generalize (((w.alloc (.cells #[.slice ad D cd,.slice af N cf] 33 (0,0))).alloc (.cells #[.int .i64 4,.int .i64 n,.string name,.string text] 29 (0,0))).alloc (.cells #[.slice none 0 0,.slice none 0 0] 33 (0,0)))=w0 at *;refine (C.out _ B0).mono ?_;intro e w1 h1;obtain ⟨p,q,p',q',rfl,O,G⟩:=h1.own;have R1:=R0.next G;have B1:=bch B0 G (nl _)
 have hfin:ArSaid w A E (.returned (.tuple #[.agg #[.slice p A.dicts.length q,.slice p' A.files.length q'],.int .i64 E])) _:=⟨_,_,rfl,(O.set2 (b:=w.heap.size+2) R0.lt (.slice p A.dicts.length q) (.slice p' A.files.length q')).low B0.size,Zu B1 (b:=w.heap.size+2) (by omega) (.slice p A.dicts.length q) (.slice p' A.files.length q')⟩
 clear R0 B0 C h1;generalize A.dicts.length=D2 at *;generalize A.files.length=N2 at *;have x0:=R1.c0;have x1:=R1.c1;have f0:=R1.f0;have f1:=R1.f1;have X5:=R1.set (u:=.slice p D2 q) (v:=.slice p' N2 q');clear R1 B1 G O;go_wp2_with fail
 clear x0 x1 f0 f1;have y0:=X5.c0;have y1:=X5.c1;generalize ((w1.setCell ⟨w.heap.size+2,0,none⟩ (.slice p D2 q)).setCell ⟨w.heap.size+2,1,none⟩ (.slice p' N2 q'))=wz at *;exact bodyPost_ret (v:=.tuple #[.agg #[.slice p D2 q,.slice p' N2 q'],.int .i64 E]) (by simp [results,Tryz.results21,go_sem,y0,y1]) rfl hfin
theorem ZkC (ad af:Option Addr) (cd cf D N:Nat) (k n:Int) (name text:ByteArray) (w:World) (h1:k ≠ 1) (h2:k ≠ 2) (h3:k ≠ 3) (h4:k ≠ 4) :
 Calls Tryz.prog 21 #[.agg #[.slice ad D cd,.slice af N cf],.agg #[.int .i64 k,.int .i64 n,.string name,.string text]] w fun e w'=>ArSaid w Ar.az 6 e w':=by
 obtain ⟨B0,R0,_⟩:=Zay w (.slice ad D cd) (.slice af N cf) (.cells #[.int .i64 k,.int .i64 n,.string name,.string text] 29 (0,0));have k1:(k == 1)=false:=by simpa using h1
 have k2:(k == 2)=false:=by simpa using h2
 have k3:(k == 3)=false:=by simpa using h3
 have k4:(k == 4)=false:=by simpa using h4
 have hfin:=Zx (E:=6) B0;clear R0 B0 h1 h2 h3 h4;go_enter Tryz.func21,Tryz.ntmps21
 go_wp2_with fail
 exact bodyPost_ret (v:=.tuple #[.agg #[.slice none 0 0,.slice none 0 0],.int .i64 6]) (by simp [results,Tryz.results21,go_sem]) rfl hfin
theorem ZgB (ad af:Option Addr) (cd cf:Nat) (a:Ar.A) (x:Im.Act) (w:World) (h:ArV w ad af a) (hs:SaneA a) (hn:x.name.size<=140737488355328) (ht:x.text.size<=140737488355328) (hM:Mx w) :
 Calls Tryz.prog 21 #[av ad cd af cf a,xv x] w fun e w'=>ArSaid w (Im.doA a x) (Im.doE a x) e w':=by
 have C1:=ZrG ad af cd cf a.dicts.length a.files.length (Ar.putA a x.name x.text x.n) (Ar.putE a x.name x.text x.n) x.n x.name x.text w (fun w' h9=>ZiE ad af cd cf a x.name x.text x.n w' (h.below h9) hs hn ht);have C2:=Zrz ad af cd cf a.dicts.length a.files.length (Ar.Zbw a x.name) (Ar.getE a x.name) x.n x.name x.text w (fun w' h9=>Zhb ad af cd cf a x.name w' (h.below h9) hs);have C3:=Zrr ad af cd cf a.dicts.length a.files.length (Ar.retA a x.n) (Ar.retE a x.n) x.n x.name x.text w (fun w' h9=>Zey ad af cd cf a x.n w' (h.below h9) hs (hM.below h9));have C4:=ZrP ad af cd cf a.dicts.length a.files.length (Ar.cmpA a) (Ar.chk a) x.n x.name x.text w (fun w' h9=>Zel ad af cd cf a w' (h.below h9) hs);unfold Im.doA Im.doE xv av;by_cases k1:x.kind=1
 ·rw [if_pos k1,if_pos k1,k1];exact C1
 by_cases k2:x.kind=2
 ·rw [if_neg k1,if_neg k1,if_pos k2,if_pos k2,k2];exact C2
 by_cases k3:x.kind=3
 ·rw [if_neg k1,if_neg k1,if_neg k2,if_neg k2,if_pos k3,if_pos k3,k3];exact C3
 by_cases k4:x.kind=4
 ·rw [if_neg k1,if_neg k1,if_neg k2,if_neg k2,if_neg k3,if_neg k3,if_pos k4,if_pos k4,k4];exact C4
 rw [if_neg k1,if_neg k1,if_neg k2,if_neg k2,if_neg k3,if_neg k3,if_neg k4,if_neg k4];exact ZkC ad af cd cf _ _ x.kind x.n x.name x.text w k1 k2 k3 k4
theorem ZtA (ad af:Option Addr) (cd cf D N:Nat) (A:Ar.A) (E n:Int) (name text:ByteArray) (w:World)
 (C:Hid (∀ w',Below w.heap.size w w'->Calls Tryz.prog 15 #[.agg #[.slice ad D cd,.slice af N cf],.string name,.string text,.int .i64 n] w' fun e w2=>ArSaid w' A E e w2)) :
 Calls Tryz.prog 23 #[.agg #[.slice ad D cd,.slice af N cf],.agg #[.int .i64 1,.int .i64 n,.string name,.string text]] w fun e w'=>ArSaid w A E e w':=by
 obtain ⟨B0,R0,_⟩:=Zay w (.slice ad D cd) (.slice af N cf) (.cells #[.int .i64 1,.int .i64 n,.string name,.string text] 29 (0,0));go_enter Tryz.func23,Tryz.ntmps23
 go_wp2_with fail
 generalize (((w.alloc (.cells #[.slice ad D cd,.slice af N cf] 33 (0,0))).alloc (.cells #[.int .i64 1,.int .i64 n,.string name,.string text] 29 (0,0))).alloc (.cells #[.slice none 0 0,.slice none 0 0] 33 (0,0)))=w0 at *;refine (C.out _ B0).mono ?_;intro e w1 h1;obtain ⟨p,q,p',q',rfl,O,G⟩:=h1.own;have R1:=R0.next G;have B1:=bch B0 G (nl _)
 have hfin:ArSaid w A E (.returned (.tuple #[.agg #[.slice p A.dicts.length q,.slice p' A.files.length q'],.int .i64 E])) _:=⟨_,_,rfl,(O.set2 (b:=w.heap.size+2) R0.lt (.slice p A.dicts.length q) (.slice p' A.files.length q')).low B0.size,Zu B1 (b:=w.heap.size+2) (by omega) (.slice p A.dicts.length q) (.slice p' A.files.length q')⟩
 clear R0 B0 C h1;generalize A.dicts.length=D2 at *;generalize A.files.length=N2 at *;have x0:=R1.c0;have x1:=R1.c1;have f0:=R1.f0;have f1:=R1.f1;have X5:=R1.set (u:=.slice p D2 q) (v:=.slice p' N2 q');clear R1 B1 G O;go_wp2_with fail
 clear x0 x1 f0 f1;have y0:=X5.c0;have y1:=X5.c1;generalize ((w1.setCell ⟨w.heap.size+2,0,none⟩ (.slice p D2 q)).setCell ⟨w.heap.size+2,1,none⟩ (.slice p' N2 q'))=wz at *;exact bodyPost_ret (v:=.tuple #[.agg #[.slice p D2 q,.slice p' N2 q'],.int .i64 E]) (by simp [results,Tryz.results23,go_sem,y0,y1]) rfl hfin
theorem ZtD (ad af:Option Addr) (cd cf D N:Nat) (A:Ar.A) (E n:Int) (name text:ByteArray) (w:World)
 (C:Hid (∀ w',Below w.heap.size w w'->Calls Tryz.prog 52 #[.agg #[.slice ad D cd,.slice af N cf],.string name] w' fun e w2=>ArSaid w' A E e w2)) :
 Calls Tryz.prog 23 #[.agg #[.slice ad D cd,.slice af N cf],.agg #[.int .i64 2,.int .i64 n,.string name,.string text]] w fun e w'=>ArSaid w A E e w':=by
 obtain ⟨B0,R0,_⟩:=Zay w (.slice ad D cd) (.slice af N cf) (.cells #[.int .i64 2,.int .i64 n,.string name,.string text] 29 (0,0));go_enter Tryz.func23,Tryz.ntmps23
 go_wp2_with fail
 generalize (((w.alloc (.cells #[.slice ad D cd,.slice af N cf] 33 (0,0))).alloc (.cells #[.int .i64 2,.int .i64 n,.string name,.string text] 29 (0,0))).alloc (.cells #[.slice none 0 0,.slice none 0 0] 33 (0,0)))=w0 at *;refine (C.out _ B0).mono ?_;intro e w1 h1;obtain ⟨p,q,p',q',rfl,O,G⟩:=h1.own;have R1:=R0.next G;have B1:=bch B0 G (nl _)
 have hfin:ArSaid w A E (.returned (.tuple #[.agg #[.slice p A.dicts.length q,.slice p' A.files.length q'],.int .i64 E])) _:=⟨_,_,rfl,(O.set2 (b:=w.heap.size+2) R0.lt (.slice p A.dicts.length q) (.slice p' A.files.length q')).low B0.size,Zu B1 (b:=w.heap.size+2) (by omega) (.slice p A.dicts.length q) (.slice p' A.files.length q')⟩
 clear R0 B0 C h1;generalize A.dicts.length=D2 at *;generalize A.files.length=N2 at *;have x0:=R1.c0;have x1:=R1.c1;have f0:=R1.f0;have f1:=R1.f1;have X5:=R1.set (u:=.slice p D2 q) (v:=.slice p' N2 q');clear R1 B1 G O;go_wp2_with fail
 clear x0 x1 f0 f1;have y0:=X5.c0;have y1:=X5.c1;generalize ((w1.setCell ⟨w.heap.size+2,0,none⟩ (.slice p D2 q)).setCell ⟨w.heap.size+2,1,none⟩ (.slice p' N2 q'))=wz at *;exact bodyPost_ret (v:=.tuple #[.agg #[.slice p D2 q,.slice p' N2 q'],.int .i64 E]) (by simp [results,Tryz.results23,go_sem,y0,y1]) rfl hfin
theorem ZtP (ad af:Option Addr) (cd cf D N:Nat) (A:Ar.A) (E n:Int) (name text:ByteArray) (w:World)
 (C:Hid (∀ w',Below w.heap.size w w'->Calls Tryz.prog 16 #[.agg #[.slice ad D cd,.slice af N cf],.int .i64 n] w' fun e w2=>ArSaid w' A E e w2)) :
 Calls Tryz.prog 23 #[.agg #[.slice ad D cd,.slice af N cf],.agg #[.int .i64 3,.int .i64 n,.string name,.string text]] w fun e w'=>ArSaid w A E e w':=by
 obtain ⟨B0,R0,_⟩:=Zay w (.slice ad D cd) (.slice af N cf) (.cells #[.int .i64 3,.int .i64 n,.string name,.string text] 29 (0,0));go_enter Tryz.func23,Tryz.ntmps23
 go_wp2_with fail
 generalize (((w.alloc (.cells #[.slice ad D cd,.slice af N cf] 33 (0,0))).alloc (.cells #[.int .i64 3,.int .i64 n,.string name,.string text] 29 (0,0))).alloc (.cells #[.slice none 0 0,.slice none 0 0] 33 (0,0)))=w0 at *;refine (C.out _ B0).mono ?_;intro e w1 h1;obtain ⟨p,q,p',q',rfl,O,G⟩:=h1.own;have R1:=R0.next G;have B1:=bch B0 G (nl _)
 have hfin:ArSaid w A E (.returned (.tuple #[.agg #[.slice p A.dicts.length q,.slice p' A.files.length q'],.int .i64 E])) _:=⟨_,_,rfl,(O.set2 (b:=w.heap.size+2) R0.lt (.slice p A.dicts.length q) (.slice p' A.files.length q')).low B0.size,Zu B1 (b:=w.heap.size+2) (by omega) (.slice p A.dicts.length q) (.slice p' A.files.length q')⟩
 clear R0 B0 C h1;generalize A.dicts.length=D2 at *;generalize A.files.length=N2 at *;have x0:=R1.c0;have x1:=R1.c1;have f0:=R1.f0;have f1:=R1.f1;have X5:=R1.set (u:=.slice p D2 q) (v:=.slice p' N2 q');clear R1 B1 G O;go_wp2_with fail
 clear x0 x1 f0 f1;have y0:=X5.c0;have y1:=X5.c1;generalize ((w1.setCell ⟨w.heap.size+2,0,none⟩ (.slice p D2 q)).setCell ⟨w.heap.size+2,1,none⟩ (.slice p' N2 q'))=wz at *;exact bodyPost_ret (v:=.tuple #[.agg #[.slice p D2 q,.slice p' N2 q'],.int .i64 E]) (by simp [results,Tryz.results23,go_sem,y0,y1]) rfl hfin
theorem ZsZ (ad af:Option Addr) (cd cf D N:Nat) (A:Ar.A) (E n:Int) (name text:ByteArray) (w:World)
 (C:Hid (∀ w',Below w.heap.size w w'->Calls Tryz.prog 17 #[.agg #[.slice ad D cd,.slice af N cf]] w' fun e w2=>ArSaid w' A E e w2)) :
 Calls Tryz.prog 23 #[.agg #[.slice ad D cd,.slice af N cf],.agg #[.int .i64 4,.int .i64 n,.string name,.string text]] w fun e w'=>ArSaid w A E e w':=by
 obtain ⟨B0,R0,_⟩:=Zay w (.slice ad D cd) (.slice af N cf) (.cells #[.int .i64 4,.int .i64 n,.string name,.string text] 29 (0,0));go_enter Tryz.func23,Tryz.ntmps23
 go_wp2_with fail
 generalize (((w.alloc (.cells #[.slice ad D cd,.slice af N cf] 33 (0,0))).alloc (.cells #[.int .i64 4,.int .i64 n,.string name,.string text] 29 (0,0))).alloc (.cells #[.slice none 0 0,.slice none 0 0] 33 (0,0)))=w0 at *;refine (C.out _ B0).mono ?_;intro e w1 h1;obtain ⟨p,q,p',q',rfl,O,G⟩:=h1.own;have R1:=R0.next G;have B1:=bch B0 G (nl _)
 have hfin:ArSaid w A E (.returned (.tuple #[.agg #[.slice p A.dicts.length q,.slice p' A.files.length q'],.int .i64 E])) _:=⟨_,_,rfl,(O.set2 (b:=w.heap.size+2) R0.lt (.slice p A.dicts.length q) (.slice p' A.files.length q')).low B0.size,Zu B1 (b:=w.heap.size+2) (by omega) (.slice p A.dicts.length q) (.slice p' A.files.length q')⟩
 clear R0 B0 C h1;generalize A.dicts.length=D2 at *;generalize A.files.length=N2 at *;have x0:=R1.c0;have x1:=R1.c1;have f0:=R1.f0;have f1:=R1.f1;have X5:=R1.set (u:=.slice p D2 q) (v:=.slice p' N2 q');clear R1 B1 G O;go_wp2_with fail
 clear x0 x1 f0 f1;have y0:=X5.c0;have y1:=X5.c1;generalize ((w1.setCell ⟨w.heap.size+2,0,none⟩ (.slice p D2 q)).setCell ⟨w.heap.size+2,1,none⟩ (.slice p' N2 q'))=wz at *;exact bodyPost_ret (v:=.tuple #[.agg #[.slice p D2 q,.slice p' N2 q'],.int .i64 E]) (by simp [results,Tryz.results23,go_sem,y0,y1]) rfl hfin
theorem Zmn (ad af:Option Addr) (cd cf D N:Nat) (k n:Int) (name text:ByteArray) (w:World) (h1:k ≠ 1) (h2:k ≠ 2) (h3:k ≠ 3) (h4:k ≠ 4) :
 Calls Tryz.prog 23 #[.agg #[.slice ad D cd,.slice af N cf],.agg #[.int .i64 k,.int .i64 n,.string name,.string text]] w fun e w'=>ArSaid w Ar.az 6 e w':=by
 obtain ⟨B0,R0,_⟩:=Zay w (.slice ad D cd) (.slice af N cf) (.cells #[.int .i64 k,.int .i64 n,.string name,.string text] 29 (0,0));have k1:(k == 1)=false:=by simpa using h1
 have k2:(k == 2)=false:=by simpa using h2
 have k3:(k == 3)=false:=by simpa using h3
 have k4:(k == 4)=false:=by simpa using h4
 have hfin:=Zx (E:=6) B0;clear R0 B0 h1 h2 h3 h4;go_enter Tryz.func23,Tryz.ntmps23
 go_wp2_with fail
 exact bodyPost_ret (v:=.tuple #[.agg #[.slice none 0 0,.slice none 0 0],.int .i64 6]) (by simp [results,Tryz.results23,go_sem]) rfl hfin
theorem ZpW (ad af:Option Addr) (cd cf:Nat) (a:Ar.A) (x:Im.Act) (w:World) (h:ArV w ad af a) (hs:SaneA a) (hn:x.name.size<=140737488355328) :
 Calls Tryz.prog 23 #[av ad cd af cf a,xv x] w fun e w'=>ArSaid w (Im.doA a x) (Im.doE a x) e w':=by
 have C1:=ZtA ad af cd cf a.dicts.length a.files.length (Ar.putA a x.name x.text x.n) (Ar.putE a x.name x.text x.n) x.n x.name x.text w (fun w' h9=>Zmk ad af cd cf a x.name x.text x.n w' (h.below h9) hs hn);have C2:=ZtD ad af cd cf a.dicts.length a.files.length (Ar.Zbw a x.name) (Ar.getE a x.name) x.n x.name x.text w (fun w' h9=>Zkf ad af cd cf a x.name w' (h.below h9) hs);have C3:=ZtP ad af cd cf a.dicts.length a.files.length (Ar.retA a x.n) (Ar.retE a x.n) x.n x.name x.text w (fun w' h9=>Zfe ad af cd cf a x.n w' (h.below h9) hs);have C4:=ZsZ ad af cd cf a.dicts.length a.files.length (Ar.cmpA a) (Ar.chk a) x.n x.name x.text w (fun w' h9=>ZfI ad af cd cf a w' (h.below h9) hs);unfold Im.doA Im.doE xv av;by_cases k1:x.kind=1
 ·rw [if_pos k1,if_pos k1,k1];exact C1
 by_cases k2:x.kind=2
 ·rw [if_neg k1,if_neg k1,if_pos k2,if_pos k2,k2];exact C2
 by_cases k3:x.kind=3
 ·rw [if_neg k1,if_neg k1,if_neg k2,if_neg k2,if_pos k3,if_pos k3,k3];exact C3
 by_cases k4:x.kind=4
 ·rw [if_neg k1,if_neg k1,if_neg k2,if_neg k2,if_neg k3,if_neg k3,if_pos k4,if_pos k4,k4];exact C4
 rw [if_neg k1,if_neg k1,if_neg k2,if_neg k2,if_neg k3,if_neg k3,if_neg k4,if_neg k4];exact Zmn ad af cd cf _ _ x.kind x.n x.name x.text w k1 k2 k3 k4
theorem SaneA.do {a:Ar.A} (h:SaneA a) {x:Im.Act} (hn:x.name.size<=140737488355328):SaneA (Im.doA a x):=by
 unfold Im.doA;split
 ·exact h.put hn
 ·split
  ·exact h.drop _
  ·split
   ·exact h.ret _
   ·split
    ·exact h.cmp
    ·exact Zdf
end Go.Proofs.YtbjbjbpgmojcbacGreat
