/- A part of the proof: what it leans on. -/
import Derived.Test.YtbjbjbpgmojcbacGreatLk40
import Derived.Test.YtbjbjbpgmojcbacGreatLk41
namespace Go.Proofs.YtbjbjbpgmojcbacGreat
open Go.RowKit
set_option maxRecDepth 8000 in
set_option maxHeartbeats 8000000 in
theorem ZhI (ad:Option Addr) (cap:Nat) (l:List Im.Act) (cut:Int) (w:World) (h:XSl w ad l) (hX:SaneX l) (hc:-9223372036854775808<=cut/\cut<=9223372036854775807) (hM:Mx w) :
 Calls Tryz.prog 3 #[.slice ad l.length cap,.int .i64 cut] w fun e w'=>e=.returned (.bool true)/\Below w.heap.size w w':=by
 have C5:Hid (∀ w',Below w.heap.size w w'->Calls Tryz.prog 5 #[] w' fun e w2=>e=.returned (.bool true)/\Below w'.heap.size w' w2):=fun w' h9=>ZgZ w' (hM.below h9)
 by_cases hbig:24<l.length
 ·have d1:decide ((24:Int)<(l.length:Int))=true:=zdT (by omega);generalize l.length=N at *;go_enter Tryz.func3,Tryz.ntmps3
  go_wp2_with fail
  refine (C5.out _ (bR _ _)).mono ?_;rintro e w1 ⟨rfl,G⟩;go_wp2_with fail
  go_ret
  exact ⟨rfl,G⟩
 ·have d1:decide ((24:Int)<(l.length:Int))=false:=dF (by omega);obtain ⟨i0,hi,hz0,hz1,hz2⟩:=info_parts (P:=Tryz.prog) (e:=3) (z:=.int .i64 0) (size:=1) (bytes:=8) (by kernel_rfl);obtain ⟨j0,gi,gz0,gz1,gz2⟩:=info_parts (P:=Tryz.prog) (e:=29) (z:=.agg #[.int .i64 0,.int .i64 0,.string ⟨#[]⟩,.string ⟨#[]⟩]) (size:=4) (bytes:=48) (by kernel_rfl);have CS:Hid (∀ w' s k,Below w.heap.size w w'->k<l.length->Calls Tryz.prog 6 #[.string s,.agg #[.int .i64 (Im.xa l k).kind,.int .i64 (Im.xa l k).n,.string (Im.xa l k).name,.string (Im.xa l k).text]] w' fun e w2=>e=.returned (.tuple #[.string (Im.stoT s (Im.xa l k)),.int .i64 (Im.stoE s (Im.xa l k))])/\Below w'.heap.size w' w2):=fun w' s k h9 hk=>Zcw s _ _ _ _ w' (hX.at hk).1 (hX.at hk).2 (hM.below h9)
  have CR:Hid (∀ w' s,Below w.heap.size w w'->Calls Tryz.prog 7 #[.string s] w' fun e w2=>Zbi (Im.done (Im.rplL s)) (Im.rplL s).length (Im.rplE s) w' e w2):=fun w' s h9=>Zen s w' (hM.below h9)
  have HX:Hid (∀ w' k,Below w.heap.size w w'->k<l.length->∃ b off,ad=some ⟨b,off,none⟩/\b<w'.heap.size/\XC w' b (off+k*4) (Im.xa l k)):=fun w' k hb hk=>(h.below hb).at hk
  have HZ:Hid (∀ k,k<l.length->(Im.xa l k).name.size<=140737488355328/\(Im.xa l k).text.size<=140737488355328):=fun k hk=>hX.at hk
  have CC:Hid (∀ w' n,0<n->n<=1000000000->Calls Tryz.prog 10 #[.int .i64 cut,.int .i64 n] w' fun e w2=>e=.returned (.int .i64 (chz cut n))/\w2=w'):=fun w' n h1 h2=>Zki cut n w' hc.1 hc.2 h1 h2
  have hN:l.length<=24:=by omega
  clear h hX hM hc hbig;generalize l.length=N at *;generalize Im.xa l=xa at *;go_enter Tryz.func3,Tryz.ntmps3
  go_wp2_with fail
  go_loopw [5,6,7,8] (fun sv v1 v2 i wr=>∃ (k:Nat) (K:List Im.Act) (s:ByteArray),k<=N/\i=.int .i64 k/\sv=.string s/\Hid (Im.Kp8 s K)/\K.length<=k/\s.size<=16384/\KS w wr v1 v2 K/\Hid (SaneX K)) (fun _ _ _ i _=>N - (intOf i).toNat)
  case atStart=>exact ⟨0,[],⟨#[]⟩,by omega,rfl,rfl,Im.Zpb,by simp,by show 0<=_;omega,KS.start w,fun x hx=>by simp at hx⟩
  case round =>
   obtain ⟨k,K,s,hk,rfl,rfl,HK,hKk,hsz,T,HSX⟩:=hrel;obtain ⟨x1,c1,rfl,hc1⟩:=Zi T.o1;obtain ⟨x2,c2,rfl,_⟩:=Zi T.o2;by_cases hlt:k<N
   ·have d2:decide ((k:Int)<(N:Int))=true:=zdT (by omega);have d2':decide (k<N)=true:=zdT hlt;have hki:(k:Int)<(N:Int):=by omega
    obtain ⟨b,off,rfl,hbl,XCk⟩:=HX.out wr k T.g hlt;have C:=CS.out wr s k T.g hlt;obtain ⟨z1,z2⟩:=HZ.out k hlt
    have HXB:Hid (∀ w',Below wr.heap.size wr w'->w'.cell? ⟨b,off+k*4,none⟩=some (.int .i64 (xa k).kind)/\w'.cell? ⟨b,off+k*4+1,none⟩=some (.int .i64 (xa k).n)/\w'.cell? ⟨b,off+k*4+2,none⟩=some (.string (xa k).name)/\w'.cell? ⟨b,off+k*4+3,none⟩=some (.string (xa k).text)):=fun w' h9=>⟨(XCk.below h9).c0,(XCk.below h9).c1,(XCk.below h9).c2,(XCk.below h9).c3⟩
    obtain ⟨y0,y1,y2,y3⟩:=XCk;by_cases hE:Im.stoE s (xa k)=0
    ·obtain ⟨h0,K2,t1,t2⟩:=HK.out.store (by omega) hE;clear h0;have HK2:=Zar K2;have tz:=K2.z;have HEn:=Zar (Im.Zku K2);have HXs:Hid (xcs (K++[xa k])=xcs K++[.int .i64 (xa k).kind,.int .i64 (xa k).n,.string (xa k).name,.string (xa k).text]):=by show _=_;rw [ZcU];rfl
     have HSX2:Hid (SaneX (K++[xa k])):=fun x hx=>by
      rcases List.mem_append.1 hx with hx | hx
      ·exact HSX.out x hx
      ·rw [List.mem_singleton.1 hx];exact ⟨z1,z2⟩
     have HLn:Hid ((K++[xa k]).length=K.length+1):=by show _=_;simp
     rw [hE] at C;clear K2 hE HK HSX CS HX HZ CR CC C5 z1 z2;generalize Im.stoT s (xa k)=U at *;have d3:decide ((U.size:Int)<=(s.size:Int))=false:=dF (by omega);have d3':decide (U.size<=s.size)=false:=dF (by omega);have hUi:(s.size:Int)<=(U.size:Int):=by omega
     have hUn:s.size<=U.size:=by omega
     have hss:(s.toList == s.toList)=true:=by simp
     generalize hKK:K++[xa k]=K2 at *;clear hKK;generalize (xa k).kind=ak at *;generalize (xa k).n=an at *;generalize (xa k).name=nm at *;generalize (xa k).text=tx at *;go_wp2_with fail
     clear y0 y1 y2 y3;refine C.mono ?_;rintro e w1 ⟨rfl,G⟩;have T1:=T.next G;obtain ⟨y0,y1,y2,y3⟩:=HXB.out w1 G;have hb1:=T1.g.size;have hnw:=ZtU w1 (.int .i64 ak) (.int .i64 an) (.string nm) (.string tx) 29
     have HN1:Hid (∀ u:World,∀ j z,[Value.int .i64 (U.size:Nat)][j]?=some z->(u.alloc (.cells #[.int .i64 (U.size:Nat)] 3 (0,0))).cell? ((⟨u.heap.size,0,none⟩:Addr).add j)=some z):=fun u j z hj=>by
      rw [Zax,World.cell?_alloc_new];simpa using hj
     clear T G C HXB
     go_wp2_with (first
      | (at_builtin;(refine zwL _ rfl _ _ 22 rfl w.heap.size 29 j0 (.agg #[.int .i64 0,.int .i64 0,.string ⟨#[]⟩,.string ⟨#[]⟩]) 4 48 U22 gi gz0 gz1 gz2 rfl (by decide) _ _ _ rfl (T1.o1.alloc _) ⟨w1.heap.size,0,none⟩ 1 1 [.int .i64 ak,.int .i64 an,.string nm,.string tx] rfl rfl hnw (one4 _ _ _ _) (by decide) (by unfold maxLen;omega) (by omega) (by simp;omega) _ rfl ?_;intro g cp w5 hown hgrow hat hlt5;obtain ⟨q1,q2,q3,q4⟩:=T1.mid hgrow hat;have hnw2:=HN1.out w5;clear hgrow hat hlt5 y0 y1 y2 y3))
      | (at_builtin;(refine zwL _ rfl _ _ 24 rfl w.heap.size 3 i0 (.int .i64 0) 1 8 U24 hi hz0 hz1 hz2 rfl (by decide) _ _ _ rfl (q1.alloc _) ⟨w5.heap.size,0,none⟩ 1 1 [.int .i64 (U.size:Nat)] rfl rfl hnw2 (by simp [Value.oneCell']) (by decide) (by unfold maxLen;omega) (by omega) (by simp;omega) _ rfl ?_;intro g2 cp2 w6 hown6 hgrow6 hat6 hlt6))
      | fail)
     have e9:=HLn.out;rw [<-HEn.out,<-e9] at hown6;rw [<-HXs.out,<-e9] at hown;have T6:=KS.fin hown q1 q2 q3 hgrow6 hown6 hat6;rw [e9] at T6;go_roundw
     case rel=>exact ⟨k+1,K2,U,by omega,by go_num,rfl,HK2,by omega,by omega,T6,HSX2⟩
     case measure=>simp [intOf];omega
    ·clear HX HZ CR CC C5 z1 z2 HXB;generalize Im.stoE s (xa k)=E at *;generalize Im.stoT s (xa k)=U at *;have d3:(E == 0)=false:=by simpa using hE
     generalize (xa k).kind=ak at *;generalize (xa k).n=an at *;generalize (xa k).name=nm at *;generalize (xa k).text=tx at *;go_wp2_with fail
     clear y0 y1 y2 y3;refine C.mono ?_;rintro e w1 ⟨rfl,G⟩;have T1:=T.next G;go_wp2_with fail
     go_roundw
     case rel=>exact ⟨k+1,K,s,by omega,by go_num,rfl,HK,by omega,by omega,T1,HSX⟩
     case measure=>simp [intOf];omega
   ·have d2:decide ((k:Int)<(N:Int))=false:=dF (by omega);have d2':decide (k<N)=false:=dF hlt
    have V1:XSl wr x1 K:=by
     obtain ⟨x,c,e,V⟩:=Zjp T.o1
     cases e
     exact V
    obtain ⟨r1,_,r3⟩:=HK.out.rp;have sX:=HSX.out;have sA:=SaneA.done sX;have hKl:K.length<=24:=by omega
    have CR1:Hid (∀ w',Below w.heap.size w w'->Calls Tryz.prog 7 #[.string s] w' fun e w2=>Zbi (Im.done K) K.length 0 w' e w2):=fun w' h9=>by
     have h1:=CR.out w' s h9;rw [r1,r3] at h1;exact h1
    have CD:Hid (∀ w' x p,XSl w' x K->Calls Tryz.prog 9 #[.slice x K.length p] w' fun e w2=>Zbv (Im.done K) w' e w2):=fun w' x p hv=>ZeW x p _ w' hv sX (by omega)
    have KA:Hid (∀ w' x y p q x' y' p' q',ArV w' x y (Im.done K)->ArV w' x' y' (Im.done K)->Calls Tryz.prog 8 #[av x p y q (Im.done K),av x' p' y' q' (Im.done K)] w' fun e w2=>e=.returned (.bool true)/\Below w'.heap.size w' w2):=fun w' x y p q x' y' p' q' hv hv'=>ZiK x y x' y' p q p' q' _ w' hv hv' sA.nd sA.nf
    have HCut:Hid (∀ w' k j,k<=s.size->j<=K.length->Im.endK K j<=k->(j=K.length\/k<Im.endK K (j+1))->Below w.heap.size w w'->Calls Tryz.prog 7 #[.string (s.extract 0 k)] w' fun e w2=>Zbi (Im.done (K.take j)) j 0 w' e w2):=fun w' k j h1 h2 h3 h4 h9=>by
     obtain ⟨e1,e2⟩:=HK.out.cut h1 h2 h3 h4;have h5:=CR.out w' (s.extract 0 k) h9;rw [e1,e2,List.length_take,Nat.min_eq_left h2] at h5;exact h5
    have CD2:Hid (∀ w' j x p,j<=K.length->XSl w' x K->Calls Tryz.prog 9 #[.slice x j p] w' fun e w2=>Zbv (Im.done (K.take j)) w' e w2):=fun w' j x p h2 hv=>by
     have h5:=ZeW x p _ w' (hv.take j) (sX.take j) (by rw [List.length_take];omega);rw [List.length_take,Nat.min_eq_left h2] at h5;exact h5
    have KA2:Hid (∀ w' j x y p q x' y' p' q',ArV w' x y (Im.done (K.take j))->ArV w' x' y' (Im.done (K.take j))->Calls Tryz.prog 8 #[av x p y q (Im.done (K.take j)),av x' p' y' q' (Im.done (K.take j))] w' fun e w2=>e=.returned (.bool true)/\Below w'.heap.size w' w2):=fun w' j x y p q x' y' p' q' hv hv'=>ZiK x y x' y' p q p' q' _ w' hv hv' (SaneA.done (sX.take j)).nd (SaneA.done (sX.take j)).nf
    have O1:Hid (∀ (A:Ar.A) (m:Nat) (w:World) (e:Ending) (w':World),Zbi A m 0 w e w'->∃ x p y q,e=.returned (.tuple #[.agg #[.slice x A.dicts.length p,.slice y A.files.length q],.int .i64 (m:Nat),.int .i64 0])/\ArV w' x y A/\Below w.heap.size w w'):=fun A m w e w' h=>by
     obtain ⟨v1,v2,rfl,O,G⟩:=h;obtain ⟨x,p,y,q,rfl,rfl,hv⟩:=O.slices;exact ⟨x,p,y,q,rfl,hv,G⟩
    have O6:Hid (∀ (A:Ar.A) (w:World) (e:Ending) (w':World),Zbv A w e w'->∃ x p y q,e=.returned (.agg #[.slice x A.dicts.length p,.slice y A.files.length q])/\ArV w' x y A/\Below w.heap.size w w'):=fun A w e w' h=>by
     obtain ⟨v1,v2,rfl,O,G⟩:=h;obtain ⟨x,p,y,q,rfl,rfl,hv⟩:=O.slices;exact ⟨x,p,y,q,rfl,hv,G⟩
    unfold av at KA KA2;clear CR HK HSX sX sA CS HX HZ r1 r3;generalize Im.done K=A at CR1 CD KA;have O6A:=Zar (O6.out A);have hKK:((K.length:Int) == (K.length:Int))=true:=by simp
    go_wp2_with fail
    refine (CR1.out _ T.g).mono ?_;intro e w1 h1;obtain ⟨xB,pB,yB,qB,rfl,VB,G⟩:=O1.out _ _ _ _ _ h1;have GA:=Za w1 (.cells #[.slice xB A.dicts.length pB,.slice yB A.files.length qB] 33 (0,0));have T:=(T.next G).next GA;have V1:=(V1.below G).below GA;have VB:=VB.below GA;have XB1:=Bx.new w1 (.slice xB A.dicts.length pB) (.slice yB A.files.length qB);have B:=T.g;clear h1 G GA CR1;generalize A.dicts.length=D1 at *;generalize A.files.length=N1 at *;go_upto_region 17 with fail
    generalize (w1.alloc (.cells #[.slice xB D1 pB,.slice yB N1 qB] 33 (0,0)))=u at *;generalize w1.heap.size=bB at *
    have HS:Hid (∀ w',Below u.heap.size u w'->w'.cell? ⟨bB,0,none⟩=some (.slice xB D1 pB)/\w'.cell? ⟨bB,1,none⟩=some (.slice yB N1 qB)):=fun w' h9=>⟨(XB1.next h9).c0,(XB1.next h9).c1⟩
    have D6:Hid (∀ w',Below u.heap.size u w'->Calls Tryz.prog 9 #[.slice x1 K.length c1] w' fun e w2=>Zbv A w' e w2):=fun w' h9=>CD.out w' _ _ (V1.below h9)
    have D8:Hid (∀ w' x y p q,Below u.heap.size u w'->ArV w' x y A->Calls Tryz.prog 8 #[.agg #[.slice xB D1 pB,.slice yB N1 qB],.agg #[.slice x D1 p,.slice y N1 q]] w' fun e w2=>e=.returned (.bool true)/\Below w'.heap.size w' w2):=fun w' x y p q h9 hv=>KA.out w' _ _ _ _ _ _ _ _ (VB.below h9) hv
    clear XB1 VB CD KA;go_cut [86] from 72 to 86 (fun c wx=>c=.bool false/\Below u.heap.size u wx)
    case first =>
     clear T V1 HCut CD2 KA2 CC C5 B O1;go_region_held3 (fun w'=>w'.cell? ⟨bB,0,none⟩=some (.slice xB D1 pB)/\w'.cell? ⟨bB,1,none⟩=some (.slice yB N1 qB))
      (first | (exact HS.out _ ((bR _ _).drew)) | (exact HS.out _ E1) | (exact HS.out _ E2))
      (first
       | (go_at_call 9;refine (D6.out _ ((bR _ _).drew)).mono ?_;intro e t2 h9;obtain ⟨x9,p9,y9,q9,rfl,V9,G2⟩:=O6A.out _ _ _ h9;have E1:Below u.heap.size u t2:=bch ((bR _ _).drew) G2 (nl _))
       | (go_at_call 8;refine (D8.out _ _ _ _ _ E1 V9).mono ?_;rintro e t3 ⟨rfl,G3⟩;have E2:Below u.heap.size u t3:=bch E1 G3 (nl _)))
     all_goals
      go_wp2_with fail
      go_meet
      exact ⟨rfl,E2⟩
    case rest =>
     obtain ⟨rfl,BC⟩:=hcut;have T:=T.next BC;have V1:=V1.below BC;clear HS D6 D8 B BC O6A;have hn1:(0:Int)<(s.size:Int)+1:=by omega
     have hn2:(s.size:Int)+1<=1000000000:=by omega
     have q1:=Zts cut _ hn1;have q2:=Ztl cut _ hn1
     obtain ⟨kk,hkk⟩:∃ kk:Nat,(kk:Int)=chz cut ((s.size:Int)+1):=⟨(chz cut ((s.size:Int)+1)).toNat,by omega⟩
     have hks:kk<=s.size:=by omega
     go_wp2_with fail
     refine (CC.out _ _ hn1 hn2).mono ?_;rintro e w3 ⟨rfl,rfl⟩;rw [<-hkk];clear q1 q2 hkk CC hn1 hn2;go_wp2_with fail
     go_loopw [15] (fun i wx=>∃ j:Nat,j<=K.length/\i=.int .i64 j/\Im.endK K j<=kk/\wx=w3) (fun i _=>K.length - (intOf i).toNat)
     case atStart=>exact ⟨0,by omega,rfl,by rw [Im.ZnW];omega,rfl⟩
     case round =>
      obtain ⟨j,hj,rfl,hjk,rfl⟩:=hrel
      obtain ⟨gq,hgq⟩:∃ gq:Bool,Hid ((decide (j<K.length) && decide (Im.endK K (j+1)<=kk))=gq):=⟨_,rfl⟩
      go_upto_region 21 with fail
      go_cut [103] from 92 to 105 (fun c wx=>c=.bool gq/\wx=wr)
      case first =>
       have HG:=hgq.out;clear hgq HCut CD2 KA2 C5 O1 O6;by_cases hl:j<K.length
       ·obtain ⟨g,c,ev,hgl,hcell⟩:=T.at hl
        cases ev
        have d1:decide ((j:Int)<(K.length:Int))=true:=zdT (by omega);have d1':decide (j<K.length)=true:=zdT hl;have hji:(j:Int)<(K.length:Int):=by omega
        rw [d1',Bool.true_and] at HG;clear T V1 hjk;generalize Im.endK K (j+1)=en at *;generalize K.length=M at *;by_cases he:en<=kk
        ·have d2:decide ((en:Int)<=(kk:Int))=true:=zdT (by omega);have d2':decide (en<=kk)=true:=zdT he;rw [d2'] at HG;subst HG;go_wp2_with fail
         go_meet
         exact ⟨rfl,rfl⟩
        ·have d2:decide ((en:Int)<=(kk:Int))=false:=dF (by omega);have d2':decide (en<=kk)=false:=dF he;rw [d2'] at HG;subst HG;go_wp2_with fail
         go_meet
         exact ⟨rfl,rfl⟩
       ·have d1:decide ((j:Int)<(K.length:Int))=false:=dF (by omega);have d1':decide (j<K.length)=false:=dF hl;rw [d1',Bool.false_and] at HG;subst HG;clear T V1 hjk;generalize K.length=M at *;go_wp2_with fail
        go_meet
        exact ⟨rfl,rfl⟩
      case rest =>
       obtain ⟨rfl,rfl⟩:=hcut
       cases gq with
       | true =>
        obtain ⟨hl,he⟩:j<K.length/\Im.endK K (j+1)<=kk:=by simpa using hgq.out
        clear HCut CD2 KA2 C5 O1 O6 hgq hjk;go_wp2_with fail
        go_roundw
        case rel=>exact ⟨j+1,by omega,by go_num,he,by first | exact trivial | rfl⟩
        case measure=>simp [intOf];omega
       | false =>
        have hend:j=K.length\/kk<Im.endK K (j+1):=by
         have h9:=hgq.out;by_cases h:j<K.length
         ·rw [decide_eq_true h,Bool.true_and] at h9;exact .inr (by have:=of_decide_eq_false h9;omega)
         ·exact .inl (by omega)
        have CRj:Hid (∀ w',Below w.heap.size w w'->Calls Tryz.prog 7 #[.string (s.extract 0 kk)] w' fun e w2=>Zbi (Im.done (K.take j)) j 0 w' e w2):=fun w' h9=>HCut.out w' kk j hks hj hjk hend h9
        have CDj:Hid (∀ w' x p,XSl w' x K->Calls Tryz.prog 9 #[.slice x j p] w' fun e w2=>Zbv (Im.done (K.take j)) w' e w2):=fun w' x p hv=>CD2.out w' j x p hj hv
        have KAj:=Zar (KA2.out · j);generalize Im.done (K.take j)=A2 at CRj CDj KAj;have O6B:=Zar (O6.out A2);clear HCut CD2 KA2 hgq hend hjk;have hjj:((j:Int) == (j:Int))=true:=by simp
        have hki:(kk:Int)<=(s.size:Int):=by omega
        have hjc:j<=c1:=by omega
        have hjci:(j:Int)<=(c1:Int):=by omega
        go_wp2_with fail
        refine (CRj.out _ T.g).mono ?_;intro e w4 h1;obtain ⟨xC,pC,yC,qC,rfl,VC,G⟩:=O1.out _ _ _ _ _ h1;have GA:=Za w4 (.cells #[.slice xC A2.dicts.length pC,.slice yC A2.files.length qC] 33 (0,0));have T:=(T.next G).next GA;have V1:=(V1.below G).below GA;have VC:=VC.below GA;have XB1:=Bx.new w4 (.slice xC A2.dicts.length pC) (.slice yC A2.files.length qC);have B:=T.g;clear h1 G GA CRj O1 O6;generalize A2.dicts.length=D2 at *;generalize A2.files.length=N2 at *;go_wp2_with fail
        generalize (w4.alloc (.cells #[.slice xC D2 pC,.slice yC N2 qC] 33 (0,0)))=u2 at *;generalize w4.heap.size=bC at *
        have HS:Hid (∀ w',Below u2.heap.size u2 w'->w'.cell? ⟨bC,0,none⟩=some (.slice xC D2 pC)/\w'.cell? ⟨bC,1,none⟩=some (.slice yC N2 qC)):=fun w' h9=>⟨(XB1.next h9).c0,(XB1.next h9).c1⟩
        have D5:Hid (∀ w',Below u2.heap.size u2 w'->Calls Tryz.prog 5 #[] w' fun e w2=>e=.returned (.bool true)/\Below w'.heap.size w' w2):=fun w' h9=>C5.out w' (bch B h9 (nl _))
        have D6:Hid (∀ w',Below u2.heap.size u2 w'->Calls Tryz.prog 9 #[.slice x1 j c1] w' fun e w2=>Zbv A2 w' e w2):=fun w' h9=>CDj.out w' _ _ (V1.below h9)
        have D8:Hid (∀ w' x y p q,Below u2.heap.size u2 w'->ArV w' x y A2->Calls Tryz.prog 8 #[.agg #[.slice xC D2 pC,.slice yC N2 qC],.agg #[.slice x D2 p,.slice y N2 q]] w' fun e w2=>e=.returned (.bool true)/\Below w'.heap.size w' w2):=fun w' x y p q h9 hv=>KAj.out w' _ _ _ _ _ _ _ _ (VC.below h9) hv
        clear XB1 VC V1 CDj KAj C5 T;go_region_held3 (fun w'=>w'.cell? ⟨bC,0,none⟩=some (.slice xC D2 pC)/\w'.cell? ⟨bC,1,none⟩=some (.slice yC N2 qC))
         (first | (exact HS.out _ ((bR _ _).drew)) | (exact HS.out _ E1) | (exact HS.out _ E2) | (exact HS.out _ E3))
         (first
          | (go_at_call 5;refine (D5.out _ ((bR _ _).drew)).mono ?_;rintro e t1 ⟨rfl,G1⟩;have E1:Below u2.heap.size u2 t1:=bch ((bR _ _).drew) G1 (nl _))
          | (go_at_call 9;refine (D6.out _ E1).mono ?_;intro e t2 h9;obtain ⟨x9,p9,y9,q9,rfl,V9,G2⟩:=O6B.out _ _ _ h9;have E2:Below u2.heap.size u2 t2:=bch E1 G2 (nl _))
          | (go_at_call 8;refine (D8.out _ _ _ _ _ E2 V9).mono ?_;rintro e t3 ⟨rfl,G3⟩;have E3:Below u2.heap.size u2 t3:=bch E2 G3 (nl _)))
        all_goals
         have B9:=bch B E3 (nl _);go_wp2_with fail
         go_ret
         exact ⟨rfl,B9⟩
end Go.Proofs.YtbjbjbpgmojcbacGreat
