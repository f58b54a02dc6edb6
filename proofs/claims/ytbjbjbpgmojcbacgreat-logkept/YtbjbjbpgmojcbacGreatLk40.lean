/- A part of the proof: what it leans on. -/
import Derived.Deep.CutRange
import Derived.Test.YtbjbjbpgmojcbacGreatLk39
set_option maxRecDepth 8000
set_option maxHeartbeats 4000000
namespace Go.Proofs.YtbjbjbpgmojcbacGreat
open Go.RowKit
theorem Zcw (s:ByteArray) (k n:Int) (nm tx:ByteArray) (w:World) (hn:nm.size<=140737488355328) (ht:tx.size<=140737488355328) (hM:Mx w) :
 Calls Tryz.prog 6 #[.string s,.agg #[.int .i64 k,.int .i64 n,.string nm,.string tx]] w fun e w'=>e=.returned (.tuple #[.string (Im.stoT s ⟨k,n,nm,tx⟩),.int .i64 (Im.stoE s ⟨k,n,nm,tx⟩)])/\Below w.heap.size w w':=by
 have B1:=Za w (.cells #[.int .i64 k,.int .i64 n,.string nm,.string tx] 29 (0,0));have X1:=XB.new w 29 k n nm tx;obtain ⟨_,hl,hN⟩:=Im.ZmA s;have hX:=Zjf s;have hWT:=Im.Zty ⟨k,n,nm,tx⟩;have C1:=Zdc s (w.alloc (.cells #[.int .i64 k,.int .i64 n,.string nm,.string tx] 29 (0,0)));have C2:Hid (∀ w',Calls Tryz.prog 19 #[.agg #[.int .i64 k,.int .i64 n,.string nm,.string tx]] w' fun e w2=>e=.returned (.tuple #[.string (Im.wrtT ⟨k,n,nm,tx⟩),.int .i64 (Im.actE ⟨k,n,nm,tx⟩)])/\Below w'.heap.size w' w2):=fun w'=>Zdl k n nm tx w' (by omega) (by omega)
 have CD0:Hid (∀ w' ad cap,Below w.heap.size w w'->XSl w' ad (Im.rplL s)->Calls Tryz.prog 22 #[.slice ad (Im.rplL s).length cap] w' fun e w2=>Zbv (Im.done (Im.rplL s)) w' e w2):=fun w' ad cap h1 h2=>Zjq ad cap _ w' h2 hX (by omega) (hM.below h1)
 have CO0:Hid (∀ w' p cp q cq,Below w.heap.size w w'->ArV w' p q (Im.done (Im.rplL s))->Calls Tryz.prog 21 #[.agg #[.slice p (Im.done (Im.rplL s)).dicts.length cp,.slice q (Im.done (Im.rplL s)).files.length cq],.agg #[.int .i64 k,.int .i64 n,.string nm,.string tx]] w' fun e w2=>ArSaid w' (Im.doA (Im.done (Im.rplL s)) ⟨k,n,nm,tx⟩) (Im.doE (Im.done (Im.rplL s)) ⟨k,n,nm,tx⟩) e w2):=fun w' p cp q cq h1 h2=>ZgB p q cp cq _ ⟨k,n,nm,tx⟩ w' h2 (SaneA.done hX) hn ht (hM.below h1)
 have HE:Hid (Im.stoE s ⟨k,n,nm,tx⟩=if Im.rplE s ≠ 0 then Im.rplE s else if Im.actE ⟨k,n,nm,tx⟩ ≠ 0 then Im.actE ⟨k,n,nm,tx⟩ else if (Im.rplL s).length=100\/16384<Im.rplN s+(Im.wrtT ⟨k,n,nm,tx⟩).size then 2 else Im.doE (Im.done (Im.rplL s)) ⟨k,n,nm,tx⟩):=rfl;have HT:Hid (Im.stoT s ⟨k,n,nm,tx⟩=if Im.stoE s ⟨k,n,nm,tx⟩=0 then s.extract 0 (Im.rplN s)++Im.wrtT ⟨k,n,nm,tx⟩ else ⟨#[]⟩):=rfl
 have hz0:Im.rplE s=0->s.size<=16384:=fun h0=>by
  by_cases hb:16384<s.size
  ·unfold Im.rplE at h0;rw [if_pos hb] at h0;cases h0
  ·omega
 clear hX hM;generalize Im.stoT s ⟨k,n,nm,tx⟩=ST at *;generalize Im.stoE s ⟨k,n,nm,tx⟩=SE at *;generalize Im.actE ⟨k,n,nm,tx⟩=AE at *;generalize Im.wrtT ⟨k,n,nm,tx⟩=WT at *;generalize Im.doE (Im.done (Im.rplL s)) ⟨k,n,nm,tx⟩=E3 at *;generalize Im.doA (Im.done (Im.rplL s)) ⟨k,n,nm,tx⟩=A2 at *;generalize Im.done (Im.rplL s)=AD at *;generalize Im.rplE s=RE at *;generalize Im.rplN s=RN at *;have HL:Hid (∀ (w:World) (e:Ending) (w':World),RpSaid (Im.rplL s) RN RE w e w'->∃ ad cap,e=.returned (.tuple #[.slice ad (Im.rplL s).length cap,.int .i64 (RN:Nat),.int .i64 RE])/\XSl w' ad (Im.rplL s)/\Below w.heap.size w w'):=fun _ _ _ h=>h.open
 generalize Im.rplL s=l at *;generalize l.length=N at *;go_enter Tryz.func6,Tryz.ntmps6
 go_wp2_with fail
 generalize (w.alloc (.cells #[.int .i64 k,.int .i64 n,.string nm,.string tx] 29 (0,0)))=w0 at *;refine C1.mono ?_;intro e w1 h1;obtain ⟨ad,cap,rfl,hx,G⟩:=HL.out _ _ _ h1;have X:=X1.next G;have B:=bch B1 G (nl _);clear C1 h1 G X1 B1 HL;by_cases hRE:RE=0
 ·have hs:=hz0 hRE;have hRN:RN<=16384:=by omega
  have hw:wrap64 ((RN:Int)+(WT.size:Int))=(RN:Int)+(WT.size:Int):=by unfold wrap64;omega
  clear hz0;subst hRE;obtain ⟨x0,x1,x2,x3,_⟩:=id X;go_wp2_with fail
  clear x0 x1 x2 x3;refine (C2.out _).mono ?_;rintro e w2 ⟨rfl,G⟩;have X:=X.next G;have hx:=hx.below G;have B:=bch B G (nl _);clear C2 G;by_cases hAE:AE=0
  ·subst hAE;by_cases h100:N=100
   ·have d1:((N:Int) == 100)=true:=by simp;omega
    have d1':(N == 100)=true:=by simpa using h100
    have eE:=HE.out;rw [if_neg (by simp),if_neg (by simp),if_pos (.inl h100)] at eE;have eT:=HT.out;rw [eE,if_neg (by decide)] at eT
    have HR:=(show Hid (SE=2/\ST=⟨#[]⟩) from ⟨eE,eT⟩)
    clear eE eT HE HT;go_wp2_with fail
    go_ret2
    exact ⟨by rw [HR.out.1,HR.out.2];rfl,B⟩
   ·have d1:((N:Int) == 100)=false:=by simp;omega
    have d1':(N == 100)=false:=by simpa using h100
    by_cases hbg:16384<RN+WT.size
    ·have d2:decide ((16384:Int)<(RN:Int)+(WT.size:Int))=true:=zdT (by omega);have eE:=HE.out;rw [if_neg (by simp),if_neg (by simp),if_pos (.inr hbg)] at eE;have eT:=HT.out;rw [eE,if_neg (by decide)] at eT
     have HR:=(show Hid (SE=2/\ST=⟨#[]⟩) from ⟨eE,eT⟩)
     clear eE eT HE HT;go_wp2_with fail
     go_ret2
     exact ⟨by rw [HR.out.1,HR.out.2];rfl,B⟩
    ·have d2:decide ((16384:Int)<(RN:Int)+(WT.size:Int))=false:=dF (by omega);have eE:=HE.out;rw [if_neg (by simp),if_neg (by simp),if_neg (fun h=>by omega)] at eE;have eT:=HT.out;rw [eE] at eT
     have HR:=(show Hid (SE=E3/\ST=if E3=0 then s.extract 0 RN++WT else ⟨#[]⟩) from ⟨eE,eT⟩)
     clear eE eT HE HT;have CD:=CD0.out;go_upto_region 9 with fail
     obtain ⟨u,hu⟩:∃ u,u=w2:=⟨_,rfl⟩
     rw [<-hu] at X hx B |-
     clear hu
     have HSS:Hid (∀ w',Below u.heap.size u w'->(fun w':World=>w'.cell? ⟨w.heap.size,0,none⟩=some (.int .i64 k)/\w'.cell? ⟨w.heap.size,1,none⟩=some (.int .i64 n)/\w'.cell? ⟨w.heap.size,2,none⟩=some (.string nm)/\w'.cell? ⟨w.heap.size,3,none⟩=some (.string tx)) w'):=fun w' h9=>⟨(X.next h9).c0,(X.next h9).c1,(X.next h9).c2,(X.next h9).c3⟩
     have CD:Hid (∀ w',Below u.heap.size u w'->Calls Tryz.prog 22 #[.slice ad N cap] w' fun e w2=>Zbv AD w' e w2):=fun w' h9=>CD0.out w' ad cap (bch B h9 (nl _)) (hx.below h9)
     have CO:Hid (∀ w' p cp q cq,Below u.heap.size u w'->ArV w' p q AD->Calls Tryz.prog 21 #[.agg #[.slice p AD.dicts.length cp,.slice q AD.files.length cq],.agg #[.int .i64 k,.int .i64 n,.string nm,.string tx]] w' fun e w2=>ArSaid w' A2 E3 e w2):=fun w' p cp q cq h9 hv=>CO0.out w' p cp q cq (bch B h9 (nl _)) hv
     clear CD0 CO0 hx;go_cut [10,11] from 39 to 45 (fun _ x wx=>x=.int .i64 E3/\Below u.heap.size u wx)
     case first =>
      clear HR;have G0:=(bR u.heap.size u).drew;refine wp_region_held_drew (S:=fun w'=>w'.cell? ⟨w.heap.size,0,none⟩=some (.int .i64 k)/\w'.cell? ⟨w.heap.size,1,none⟩=some (.int .i64 n)/\w'.cell? ⟨w.heap.size,2,none⟩=some (.string nm)/\w'.cell? ⟨w.heap.size,3,none⟩=some (.string tx)) (by kernel_rfl) (HSS.out _ G0) (fun hS=>?_);refine wK (i:=0) (fuel:=9) (v:=.slice ad N cap) rfl (by kernel_rfl) (by kernel_rfl) (by kernel_rfl) (fun _ _ _ h=>h) (Or.inl ⟨by rfl,fun w' h9=>by obtain ⟨k1,k2,k3,k4⟩:=h9;go_simp⟩) hS ?_;refine wK (i:=2) (fuel:=8) (v:=.agg #[.int .i64 k,.int .i64 n,.string nm,.string tx]) rfl (by kernel_rfl) (by kernel_rfl) (by kernel_rfl) (fun _ _ _ h=>h) (Or.inl ⟨by rfl,fun w' h9=>by obtain ⟨k1,k2,k3,k4⟩:=h9;go_simp⟩) hS ?_;refine wY (rs:=[1,7]) (fuel:=7) (by kernel_rfl) (by simp) ?_;refine rC rfl (fun K hK=>?_) (rC rfl (fun K hK=>?_) rN)
      ·go_simp
       go_at_call 22
       refine (CD.out _ G0).mono ?_;rintro e wd ⟨v1,v2,rfl,OD,GD⟩;obtain ⟨p,cp,q,cq,rfl,rfl,VD⟩:=OD.slices;have G1:=bch G0 GD (nl _);refine hK.out _ _ (HSS.out _ G1) (fun hS1=>?_);clear hK;generalize AD.dicts.length=D at *;generalize AD.files.length=F at *;refine wY (rs:=[3,7]) (fuel:=6) (by kernel_rfl) (by simp) ?_;refine rC rfl (fun K hK=>?_) (rC rfl (fun K hK=>?_) rN)
       ·go_simp
        go_at_call 21
        refine (CO.out _ _ _ _ _ G1 VD).mono ?_;intro e wo h1;obtain ⟨p2,q2,p3,q3,rfl,_,GO⟩:=h1.own;have G2:=bch G1 GO (nl _);refine hK.out _ _ (HSS.out _ G2) (fun hS2=>?_);clear hK h1;generalize A2.dicts.length=D2 at *;generalize A2.files.length=F2 at *;refine wK (i:=4) (fuel:=5) (v:=.tuple #[.agg #[.slice p2 D2 q2,.slice p3 F2 q3],.int .i64 E3]) rfl (by kernel_rfl) (by kernel_rfl) (by kernel_rfl) (fun _ _ _ h=>h) (Or.inl ⟨by rfl,fun w' h9=>by obtain ⟨k1,k2,k3,k4⟩:=h9;go_simp⟩) hS2 ?_;refine wK (i:=5) (fuel:=4) (v:=.agg #[.slice p2 D2 q2,.slice p3 F2 q3]) rfl (by kernel_rfl) (by kernel_rfl) (by kernel_rfl) (fun _ _ _ h=>h) (Or.inl ⟨by rfl,fun w' h9=>by obtain ⟨k1,k2,k3,k4⟩:=h9;go_simp⟩) hS2 ?_;refine wK (i:=6) (fuel:=3) (v:=.int .i64 E3) rfl (by kernel_rfl) (by kernel_rfl) (by kernel_rfl) (fun _ _ _ h=>h) (Or.inl ⟨by rfl,fun w' h9=>by obtain ⟨k1,k2,k3,k4⟩:=h9;go_simp⟩) hS2 ?_;refine wY (rs:=[7]) (fuel:=2) (by kernel_rfl) (by simp) ?_;refine rC rfl (fun K hK=>?_) rN;go_simp
        have G3:Below u.heap.size u (wo.alloc (.cells #[.slice none 0 0,.slice none 0 0] 33 (0,0))):=bch G2 (Za wo (.cells #[.slice none 0 0,.slice none 0 0] 33 (0,0))) (nl _);have XN:=Bx.new wo (.slice none 0 0) (.slice none 0 0);have hbN0:u.heap.size<=wo.heap.size:=G2.size;refine hK.out _ _ (HSS.out _ G3) (fun hS3=>?_);clear hK;generalize (wo.alloc (.cells #[.slice none 0 0,.slice none 0 0] 33 (0,0)))=wa at *
        obtain ⟨bN,hbn⟩:∃ bN,bN=wo.heap.size:=⟨_,rfl⟩
        rw [<-hbn] at XN |-
        have hbN:u.heap.size<=bN:=by rw [hbn];exact hbN0
        clear hbn hbN0;refine wY (rs:=[8]) (fuel:=1) (by kernel_rfl) (by simp) ?_;refine rC rfl (fun K hK=>?_) rN;have x0:=XN.c0;have x1:=XN.c1;have f0:=XN.f0;have f1:=XN.f1;have x1':=(cO wa ⟨bN,0,none⟩ ⟨bN,1,none⟩ (.slice p2 D2 q2) (by simp)).trans x1;have G9:=Zu G3 (b:=bN) hbN (.slice p2 D2 q2) (.slice p3 F2 q3);go_simp
        refine hK.out _ _ (HSS.out _ G9) (fun hS9=>?_);clear hK x0 x1 f0 f1 x1';refine wY (rs:=[9]) (fuel:=0) (by kernel_rfl) (by simp) ?_;refine rC rfl (fun K hK=>?_) rN;go_simp
        refine hK.out _ _ hS9 (fun _=>?_);clear hK;refine ⟨by kernel_rfl,?_⟩;go_wp2_with fail
        go_meet
        exact ⟨rfl,G9⟩
       ·go_simp
        have G2:Below u.heap.size u (wd.alloc (.cells #[.slice none 0 0,.slice none 0 0] 33 (0,0))):=bch G1 (Za wd (.cells #[.slice none 0 0,.slice none 0 0] 33 (0,0))) (nl _);have XN:=Bx.new wd (.slice none 0 0) (.slice none 0 0);have hbN0:u.heap.size<=wd.heap.size:=G1.size;refine hK.out _ _ (HSS.out _ G2) (fun hS3=>?_);clear hK;have AB:=Za wd (.cells #[.slice none 0 0,.slice none 0 0] 33 (0,0));generalize (wd.alloc (.cells #[.slice none 0 0,.slice none 0 0] 33 (0,0)))=wa at *
        obtain ⟨bN,hbn⟩:∃ bN,bN=wd.heap.size:=⟨_,rfl⟩
        rw [<-hbn] at XN |-
        have hbN:u.heap.size<=bN:=by rw [hbn];exact hbN0
        clear hbn hbN0;have VA:=VD.below (show Below wd.heap.size wd wa from AB);refine wY (rs:=[3]) (fuel:=5) (by kernel_rfl) (by simp) ?_;refine rC rfl (fun K hK=>?_) rN;go_simp
        go_at_call 21
        refine (CO.out _ _ _ _ _ G2 VA).mono ?_;intro e wo h1;obtain ⟨p2,q2,p3,q3,rfl,_,GO⟩:=h1.own;have G3:=bch G2 GO (nl _);refine hK.out _ _ (HSS.out _ G3) (fun hS2=>?_);clear hK h1;generalize A2.dicts.length=D2 at *;generalize A2.files.length=F2 at *;have XN:=XN.next GO;refine wK (i:=4) (fuel:=4) (v:=.tuple #[.agg #[.slice p2 D2 q2,.slice p3 F2 q3],.int .i64 E3]) rfl (by kernel_rfl) (by kernel_rfl) (by kernel_rfl) (fun _ _ _ h=>h) (Or.inl ⟨by rfl,fun w' h9=>by obtain ⟨k1,k2,k3,k4⟩:=h9;go_simp⟩) hS2 ?_;refine wK (i:=5) (fuel:=3) (v:=.agg #[.slice p2 D2 q2,.slice p3 F2 q3]) rfl (by kernel_rfl) (by kernel_rfl) (by kernel_rfl) (fun _ _ _ h=>h) (Or.inl ⟨by rfl,fun w' h9=>by obtain ⟨k1,k2,k3,k4⟩:=h9;go_simp⟩) hS2 ?_;refine wK (i:=6) (fuel:=2) (v:=.int .i64 E3) rfl (by kernel_rfl) (by kernel_rfl) (by kernel_rfl) (fun _ _ _ h=>h) (Or.inl ⟨by rfl,fun w' h9=>by obtain ⟨k1,k2,k3,k4⟩:=h9;go_simp⟩) hS2 ?_;refine wY (rs:=[8]) (fuel:=1) (by kernel_rfl) (by simp) ?_;refine rC rfl (fun K hK=>?_) rN;have x0:=XN.c0;have x1:=XN.c1;have f0:=XN.f0;have f1:=XN.f1;have x1':=(cO wo ⟨bN,0,none⟩ ⟨bN,1,none⟩ (.slice p2 D2 q2) (by simp)).trans x1;have G9:=Zu G3 (b:=bN) hbN (.slice p2 D2 q2) (.slice p3 F2 q3);go_simp
        refine hK.out _ _ (HSS.out _ G9) (fun hS9=>?_);clear hK x0 x1 f0 f1 x1';refine wY (rs:=[9]) (fuel:=0) (by kernel_rfl) (by simp) ?_;refine rC rfl (fun K hK=>?_) rN;go_simp
        refine hK.out _ _ hS9 (fun _=>?_);clear hK;refine ⟨by kernel_rfl,?_⟩;go_wp2_with fail
        go_meet
        exact ⟨rfl,G9⟩
      ·go_simp
       have G1:Below u.heap.size u (u.alloc (.cells #[.slice none 0 0,.slice none 0 0] 33 (0,0))).drew:=(Za u (.cells #[.slice none 0 0,.slice none 0 0] 33 (0,0))).drew;have XN:=(Bx.new u (.slice none 0 0) (.slice none 0 0)).next ((bR _ _).drew);have hbN0:u.heap.size<=u.heap.size:=nl _;refine hK.out _ _ (HSS.out _ G1) (fun hS3=>?_);clear hK;generalize (u.alloc (.cells #[.slice none 0 0,.slice none 0 0] 33 (0,0))).drew=wa at *
       obtain ⟨bN,hbn⟩:∃ bN,bN=u.heap.size:=⟨_,rfl⟩
       rw [<-hbn] at XN |-
       have hbN:u.heap.size<=bN:=by rw [hbn];exact hbN0
       clear hbn hbN0;refine wY (rs:=[1]) (fuel:=6) (by kernel_rfl) (by simp) ?_;refine rC rfl (fun K hK=>?_) rN;go_simp
       go_at_call 22
       refine (CD.out _ G1).mono ?_;rintro e wd ⟨v1,v2,rfl,OD,GD⟩;obtain ⟨p,cp,q,cq,rfl,rfl,VD⟩:=OD.slices;have G2:=bch G1 GD (nl _);refine hK.out _ _ (HSS.out _ G2) (fun hS1=>?_);clear hK;generalize AD.dicts.length=D at *;generalize AD.files.length=F at *;have XN:=XN.next GD;refine wY (rs:=[3]) (fuel:=5) (by kernel_rfl) (by simp) ?_;refine rC rfl (fun K hK=>?_) rN;go_simp
       go_at_call 21
       refine (CO.out _ _ _ _ _ G2 VD).mono ?_;intro e wo h1;obtain ⟨p2,q2,p3,q3,rfl,_,GO⟩:=h1.own;have G3:=bch G2 GO (nl _);refine hK.out _ _ (HSS.out _ G3) (fun hS2=>?_);clear hK h1;generalize A2.dicts.length=D2 at *;generalize A2.files.length=F2 at *;have XN:=XN.next GO;refine wK (i:=4) (fuel:=4) (v:=.tuple #[.agg #[.slice p2 D2 q2,.slice p3 F2 q3],.int .i64 E3]) rfl (by kernel_rfl) (by kernel_rfl) (by kernel_rfl) (fun _ _ _ h=>h) (Or.inl ⟨by rfl,fun w' h9=>by obtain ⟨k1,k2,k3,k4⟩:=h9;go_simp⟩) hS2 ?_;refine wK (i:=5) (fuel:=3) (v:=.agg #[.slice p2 D2 q2,.slice p3 F2 q3]) rfl (by kernel_rfl) (by kernel_rfl) (by kernel_rfl) (fun _ _ _ h=>h) (Or.inl ⟨by rfl,fun w' h9=>by obtain ⟨k1,k2,k3,k4⟩:=h9;go_simp⟩) hS2 ?_;refine wK (i:=6) (fuel:=2) (v:=.int .i64 E3) rfl (by kernel_rfl) (by kernel_rfl) (by kernel_rfl) (fun _ _ _ h=>h) (Or.inl ⟨by rfl,fun w' h9=>by obtain ⟨k1,k2,k3,k4⟩:=h9;go_simp⟩) hS2 ?_;refine wY (rs:=[8]) (fuel:=1) (by kernel_rfl) (by simp) ?_;refine rC rfl (fun K hK=>?_) rN;have x0:=XN.c0;have x1:=XN.c1;have f0:=XN.f0;have f1:=XN.f1;have x1':=(cO wo ⟨bN,0,none⟩ ⟨bN,1,none⟩ (.slice p2 D2 q2) (by simp)).trans x1;have G9:=Zu G3 (b:=bN) hbN (.slice p2 D2 q2) (.slice p3 F2 q3);go_simp
       refine hK.out _ _ (HSS.out _ G9) (fun hS9=>?_);clear hK x0 x1 f0 f1 x1';refine wY (rs:=[9]) (fuel:=0) (by kernel_rfl) (by simp) ?_;refine rC rfl (fun K hK=>?_) rN;go_simp
       refine hK.out _ _ hS9 (fun _=>?_);clear hK;refine ⟨by kernel_rfl,?_⟩;go_wp2_with fail
       go_meet
       exact ⟨rfl,G9⟩
     case rest =>
      obtain ⟨rfl,G⟩:=hcut;have X:=X.next G;have B:=bch B G (nl _);clear G HSS CD CO;by_cases hE3:E3=0
      ·subst hE3;have hri:(RN:Int)<=(s.size:Int):=by omega
       have hb9:¬ 9223372036854775807<RN+WT.size:=by omega
       go_wp2_with fail
       go_ret2
       exact ⟨by rw [HR.out.1,HR.out.2,if_pos trivial];rfl,B⟩
      ·have dE:(E3 == 0)=false:=by simpa using hE3
       go_wp2_with fail
       go_ret2
       exact ⟨by rw [HR.out.1,HR.out.2,if_neg hE3];rfl,B⟩
  ·have dA:(AE == 0)=false:=by simpa using hAE
   have eE:=HE.out;rw [if_neg (by simp),if_pos hAE] at eE;have eT:=HT.out;rw [eE,if_neg hAE] at eT
   have HR:=(show Hid (SE=AE/\ST=⟨#[]⟩) from ⟨eE,eT⟩)
   clear eE eT HE HT;go_wp2_with fail
   go_ret2
   exact ⟨by rw [HR.out.1,HR.out.2];rfl,B⟩
 ·have dR:(RE == 0)=false:=by simpa using hRE
  have eE:=HE.out;rw [if_pos hRE] at eE;have eT:=HT.out;rw [eE,if_neg hRE] at eT
  have HR:=(show Hid (SE=RE/\ST=⟨#[]⟩) from ⟨eE,eT⟩)
  clear eE eT HE HT;go_wp2_with fail
  go_ret2
  exact ⟨by rw [HR.out.1,HR.out.2];rfl,B⟩
theorem ZfW (s1 s2 b t3:ByteArray) (A:Ar.A) (l:List Im.Act) (w:World) (z1:s1.size<=100) (z2:b.size<=100) (hA:A.dicts.length=1) (hF:A.files.length=1) (hl:l.length=1) (hb:(b.toList == [5,1,2,1,97,0])=true)
 (C1:Hid (∀ w',Below w.heap.size w w'->Calls Tryz.prog 6 #[.string ⟨#[]⟩,.agg #[.int .i64 1,.int .i64 0,.string ⟨#[97]⟩,.string ⟨#[120,121,122]⟩]] w' fun e w2=>e=.returned (.tuple #[.string s1,.int .i64 0])/\Below w'.heap.size w' w2))
 (C2:Hid (∀ w',Below w.heap.size w w'->Calls Tryz.prog 6 #[.string (s1++⟨#[7]⟩),.agg #[.int .i64 3,.int .i64 8,.string ⟨#[]⟩,.string ⟨#[]⟩]] w' fun e w2=>e=.returned (.tuple #[.string s2,.int .i64 0])/\Below w'.heap.size w' w2))
 (C3:Hid (∀ w',Below w.heap.size w w'->Calls Tryz.prog 7 #[.string s2] w' fun e w2=>Zbi A 2 0 w' e w2))
 (C4:Hid (∀ w',Below w.heap.size w w'->Calls Tryz.prog 6 #[.string s2,.agg #[.int .i64 2,.int .i64 0,.string ⟨#[98]⟩,.string ⟨#[]⟩]] w' fun e w2=>e=.returned (.tuple #[.string t3,.int .i64 5])/\Below w'.heap.size w' w2))
 (C5:Hid (∀ w',Calls Tryz.prog 19 #[.agg #[.int .i64 1,.int .i64 2,.string ⟨#[97]⟩,.string ⟨#[]⟩]] w' fun e w2=>e=.returned (.tuple #[.string b,.int .i64 0])/\Below w'.heap.size w' w2))
 (C6:Hid (∀ w',Calls Tryz.prog 20 #[.string (b++⟨#[120]⟩)] w' fun e w2=>RpSaid l 6 0 w' e w2)) :
 Calls Tryz.prog 5 #[] w fun e w'=>e=.returned (.bool true)/\Below w.heap.size w w':=by
 have O3:Hid (∀ (w:World) (e:Ending) (w':World),Zbi A 2 0 w e w'->∃ x p y q,e=.returned (.tuple #[.agg #[.slice x 1 p,.slice y 1 q],.int .i64 2,.int .i64 0])/\Below w.heap.size w w'):=fun w e w' h=>by
  obtain ⟨v1,v2,rfl,O,G⟩:=h;obtain ⟨x,p,y,q,rfl,rfl,_⟩:=O.slices;exact ⟨x,p,y,q,by rw [hA,hF];rfl,G⟩
 have O6:Hid (∀ (w:World) (e:Ending) (w':World),RpSaid l 6 0 w e w'->∃ x p,e=.returned (.tuple #[.slice x 1 p,.int .i64 6,.int .i64 0])/\Below w.heap.size w w'):=fun w e w' h=>by
  obtain ⟨x,p,rfl,_,G⟩:=h.open;exact ⟨x,p,by rw [hl];rfl,G⟩
 clear hA hF hl;go_enter Tryz.func5,Tryz.ntmps5
 go_wp2_with fail
 refine (C1.out _ (bR _ _)).mono ?_;rintro e w1 ⟨rfl,B⟩;clear C1;go_wp2_with fail
 refine (C2.out _ B).mono ?_;rintro e w2 ⟨rfl,G⟩;have B:=bch B G (nl _);clear C2 G;go_wp2_with fail
 refine (C3.out _ B).mono ?_;intro e w3 h1;obtain ⟨x,p,y,q,rfl,G⟩:=O3.out _ _ _ h1;have GA:=Za w3 (.cells #[.slice x 1 p,.slice y 1 q] 33 (0,0));have X:=Bx.new w3 (.slice x 1 p) (.slice y 1 q);have B:=bch (bch B G (nl _)) GA (nl _);clear C3 G GA h1 O3;go_wp2_with fail
 generalize (w3.alloc (.cells #[.slice x 1 p,.slice y 1 q] 33 (0,0)))=u3 at *;generalize w3.heap.size=bA at *;refine (C4.out _ B).mono ?_;rintro e w4 ⟨rfl,G⟩;have B:=bch B G (nl _);have X:=X.next G;clear C4 G;go_wp2_with fail
 refine (C5.out _).mono ?_;rintro e w5 ⟨rfl,G⟩;have B:=bch B G (nl _);have X:=X.next G;clear C5 G;go_wp2_with fail
 refine (C6.out _).mono ?_;intro e w6 h1;obtain ⟨x6,p6,rfl,G⟩:=O6.out _ _ _ h1;have B:=bch B G (nl _);have X:=X.next G;clear C6 G h1 O6;have x0:=X.c0;have x1:=X.c1;clear X;go_wp2_with fail
 go_ret
 exact ⟨rfl,B⟩
namespace Im
def l1:ByteArray:=⟨#[8,1,0,1,97,3,120,121,122]⟩
def l2:ByteArray:=⟨#[8,1,0,1,97,3,120,121,122,4,3,8,0,0]⟩
def l4:ByteArray:=⟨#[5,1,2,1,97,0]⟩
theorem b1e:stoE ⟨#[]⟩ ⟨1,0,⟨#[97]⟩,⟨#[120,121,122]⟩⟩=0:=by kernel_rfl
theorem b1t:stoT ⟨#[]⟩ ⟨1,0,⟨#[97]⟩,⟨#[120,121,122]⟩⟩=l1:=by kernel_rfl
theorem b2e:stoE (l1++⟨#[7]⟩) ⟨3,8,⟨#[]⟩,⟨#[]⟩⟩=0:=by kernel_rfl
theorem b2t:stoT (l1++⟨#[7]⟩) ⟨3,8,⟨#[]⟩,⟨#[]⟩⟩=l2:=by kernel_rfl
theorem b3n:(rplL l2).length=2:=by kernel_rfl
theorem b3d:(done (rplL l2)).dicts.length=1:=by kernel_rfl
theorem b3f:(done (rplL l2)).files.length=1:=by kernel_rfl
theorem b3e:rplE l2=0:=by kernel_rfl
theorem b4e:stoE l2 ⟨2,0,⟨#[98]⟩,⟨#[]⟩⟩=5:=by kernel_rfl
theorem b5t:wrtT ⟨1,2,⟨#[97]⟩,⟨#[]⟩⟩=l4:=by kernel_rfl
theorem b5e:actE ⟨1,2,⟨#[97]⟩,⟨#[]⟩⟩=0:=by kernel_rfl
theorem b6l:(rplL (l4++⟨#[120]⟩)).length=1:=by kernel_rfl
theorem b6n:rplN (l4++⟨#[120]⟩)=6:=by kernel_rfl
theorem b6e:rplE (l4++⟨#[120]⟩)=0:=by kernel_rfl
theorem b7:Nat.ble l1.size 100=true:=by kernel_rfl
theorem b9:Nat.ble l4.size 100=true:=by kernel_rfl
theorem b8:(l4.toList == [5,1,2,1,97,0])=true:=by kernel_rfl
end Im
theorem Zdi (a b c:UInt8):(⟨#[]⟩:ByteArray).size<=140737488355328/\(⟨#[a]⟩:ByteArray).size<=140737488355328/\(⟨#[a,b,c]⟩:ByteArray).size<=140737488355328:=by
 refine ⟨?_,?_,?_⟩
 ·show 0<=_;omega
 ·show 1<=_;omega
 ·show 3<=_;omega
theorem Zup (w:World) (hM:Mx w):Calls Tryz.prog 6 #[.string ⟨#[]⟩,.agg #[.int .i64 1,.int .i64 0,.string ⟨#[97]⟩,.string ⟨#[120,121,122]⟩]] w fun e w2=>e=.returned (.tuple #[.string Im.l1,.int .i64 0])/\Below w.heap.size w w2:=by
 have h:=Zcw ⟨#[]⟩ 1 0 ⟨#[97]⟩ ⟨#[120,121,122]⟩ w (Zdi 97 0 0).2.1 (Zdi 120 121 122).2.2 hM;rw [Im.b1t,Im.b1e] at h;exact h
theorem ZuG (w:World) (hM:Mx w):Calls Tryz.prog 6 #[.string (Im.l1++⟨#[7]⟩),.agg #[.int .i64 3,.int .i64 8,.string ⟨#[]⟩,.string ⟨#[]⟩]] w fun e w2=>e=.returned (.tuple #[.string Im.l2,.int .i64 0])/\Below w.heap.size w w2:=by
 have h:=Zcw (Im.l1++⟨#[7]⟩) 3 8 ⟨#[]⟩ ⟨#[]⟩ w (Zdi 0 0 0).1 (Zdi 0 0 0).1 hM;rw [Im.b2t,Im.b2e] at h;exact h
theorem ZuB (w:World) (hM:Mx w):Calls Tryz.prog 6 #[.string Im.l2,.agg #[.int .i64 2,.int .i64 0,.string ⟨#[98]⟩,.string ⟨#[]⟩]] w fun e w2=>e=.returned (.tuple #[.string (Im.stoT Im.l2 ⟨2,0,⟨#[98]⟩,⟨#[]⟩⟩),.int .i64 5])/\Below w.heap.size w w2:=by
 have h:=Zcw Im.l2 2 0 ⟨#[98]⟩ ⟨#[]⟩ w (Zdi 98 0 0).2.1 (Zdi 0 0 0).1 hM;rw [Im.b4e] at h;exact h
theorem ZuJ (w:World) (hM:Mx w):Calls Tryz.prog 7 #[.string Im.l2] w fun e w2=>Zbi (Im.done (Im.rplL Im.l2)) 2 0 w e w2:=by
 have h:=Zen Im.l2 w hM;rw [Im.b3n,Im.b3e] at h;exact h
theorem ZuD (w:World):Calls Tryz.prog 19 #[.agg #[.int .i64 1,.int .i64 2,.string ⟨#[97]⟩,.string ⟨#[]⟩]] w fun e w2=>e=.returned (.tuple #[.string Im.l4,.int .i64 0])/\Below w.heap.size w w2:=by
 have h:=Zdl 1 2 ⟨#[97]⟩ ⟨#[]⟩ w (nt (Zdi 97 0 0).2.1 (by omega)) (nt (Zdi 0 0 0).1 (by omega));rw [Im.b5t,Im.b5e] at h;exact h
theorem Zuq (w:World):Calls Tryz.prog 20 #[.string (Im.l4++⟨#[120]⟩)] w fun e w2=>RpSaid (Im.rplL (Im.l4++⟨#[120]⟩)) 6 0 w e w2:=by
 have h:=Zdc (Im.l4++⟨#[120]⟩) w;rw [Im.b6n,Im.b6e] at h;exact h
theorem ZgZ (w:World) (hM:Mx w):Calls Tryz.prog 5 #[] w fun e w'=>e=.returned (.bool true)/\Below w.heap.size w w' :=
 ZfW Im.l1 Im.l2 Im.l4 _ _ _ w (Nat.le_of_ble_eq_true Im.b7) (Nat.le_of_ble_eq_true Im.b9) Im.b3d Im.b3f Im.b6l Im.b8 (fun w' h9=>Zup w' (hM.below h9)) (fun w' h9=>ZuG w' (hM.below h9)) (fun w' h9=>ZuJ w' (hM.below h9)) (fun w' h9=>ZuB w' (hM.below h9)) (fun w'=>ZuD w') (fun w'=>Zuq w')
theorem ArOwn.far2 {lo:Nat} {w:World} {v1 v2:Value} {a:Ar.A} (h:ArOwn lo w v1 v2 a) {b:Nat} (n1:v1.ownBlock ≠ some b) (n2:v2.ownBlock ≠ some b) (u v:Value):ArOwn lo ((w.setCell ⟨b,0,none⟩ u).setCell ⟨b,1,none⟩ v) v1 v2 a:=by
 have g1:=Zc w ⟨b,0,none⟩ u;have g2:=Zc (w.setCell ⟨b,0,none⟩ u) ⟨b,1,none⟩ v;exact ⟨(h.o1.kept g1 (.inr n1)).kept g2 (.inr n1),(h.o2.kept g1 (.inr n2)).kept g2 (.inr n2),h.ne⟩
theorem DS.far2 {w wr:World} {v1 v2:Value} {a:Ar.A} (h:DS w wr v1 v2 a) {b:Nat} (hb:w.heap.size+1<b) (n1:v1.ownBlock ≠ some b) (n2:v2.ownBlock ≠ some b) (u v:Value):DS w ((wr.setCell ⟨b,0,none⟩ u).setCell ⟨b,1,none⟩ v) v1 v2 a :=
 ⟨h.o.far2 n1 n2 u v,h.x.far (by omega) u v,h.r.far (by omega) u v,Zu h.g (by omega) u v⟩
theorem ZeW (ad:Option Addr) (cap:Nat) (l:List Im.Act) (w:World) (h:XSl w ad l) (hX:SaneX l) (hN:l.length<=1000) :
 Calls Tryz.prog 9 #[.slice ad l.length cap] w fun e w'=>Zbv (Im.done l) w e w':=by
 have CD:Hid (∀ w' k p cp q cq,Below w.heap.size w w'->k<l.length->ArV w' p q (Im.done (l.take k))->Calls Tryz.prog 23 #[av p cp q cq (Im.done (l.take k)),.agg #[.int .i64 (Im.xa l k).kind,.int .i64 (Im.xa l k).n,.string (Im.xa l k).name,.string (Im.xa l k).text]] w' fun e w2=>ArSaid w' (Im.doA (Im.done (l.take k)) (Im.xa l k)) (Im.doE (Im.done (l.take k)) (Im.xa l k)) e w2):=fun w' k p cp q cq _ hk hv=>ZpW p q cp cq (Im.done (l.take k)) (Im.xa l k) w' hv (SaneA.done (fun x hx=>hX x (List.mem_of_mem_take hx))) (hX.at hk).1
 have HS:Hid (∀ k,k<l.length->Im.done (l.take (k+1))=if Im.doE (Im.done (l.take k)) (Im.xa l k)=0 then Im.doA (Im.done (l.take k)) (Im.xa l k) else Im.done (l.take k)):=fun k hk=>Im.done_take hk
 have HX:Hid (∀ w' k,Below w.heap.size w w'->k<l.length->∃ b off,ad=some ⟨b,off,none⟩/\b<w'.heap.size/\XC w' b (off+k*4) (Im.xa l k)):=fun w' k hb hk=>(h.below hb).at hk
 have H0:Hid (Im.done (l.take 0)=Ar.az):=rfl;have HE:Hid (Im.done (l.take l.length)=Im.done l):=by show _=_;rw [List.take_length]
 have T0:=DS.start w;clear h hX;rw [<-HE.out];clear HE;unfold av at CD;generalize l.length=N at *
 obtain ⟨dk,hdk⟩:∃ dk:Nat->Ar.A,∀ k,Im.done (l.take k)=dk k:=⟨_,fun _=>rfl⟩
 simp only [hdk] at CD HS H0 |-
 clear hdk;generalize Im.xa l=xa at *;go_enter Tryz.func9,Tryz.ntmps9
 go_wp2_with fail
 generalize ((w.alloc (.cells #[.slice none 0 0,.slice none 0 0] 33 (0,0))).alloc (.cells #[.slice none 0 0,.slice none 0 0] 33 (0,0)))=w0 at *;go_loopw [4] (fun i wr=>∃ (k:Nat) (v1 v2:Value),k<=N/\i=.int .i64 k/\DS w wr v1 v2 (dk k)) (fun i _=>N - (intOf i).toNat)
 case atStart=>exact ⟨0,_,_,by omega,rfl,by rw [H0.out];exact T0⟩
 case round =>
  clear T0 H0;obtain ⟨k,v1,v2,hk,rfl,T⟩:=hrel;obtain ⟨p,cp,q,cq,rfl,rfl,hv⟩:=T.o.slices;by_cases hlt:k<N
  ·have d1:decide ((k:Int)<(N:Int))=true:=zdT (by omega);have d1':decide (k<N)=true:=zdT hlt;have hki:(k:Int)<(N:Int):=by omega
   obtain ⟨b,off,rfl,hbl,c0,c1,c2,c3⟩:=HX.out wr k T.g hlt;have HS':=Zar (HS.out k hlt);have C:Hid (∀ w',Below w.heap.size w w'->ArV w' p q (dk k)->_):=fun w' h1 h2=>CD.out w' k p cp q cq h1 hlt h2
   generalize (xa k).kind=ak at *;generalize (xa k).n=an at *;generalize (xa k).name=nm at *;generalize (xa k).text=tx at *;generalize Im.doA (dk k) (xa k)=A2 at *;generalize Im.doE (dk k) (xa k)=E at *;generalize (dk k).dicts.length=D at *;generalize (dk k).files.length=F at *
   have HSS:Hid (∀ w',Below wr.heap.size wr w'->(fun w':World=>w'.cell? ⟨w.heap.size+1,0,none⟩=some (.slice p D cp)/\w'.cell? ⟨w.heap.size+1,1,none⟩=some (.slice q F cq)/\w'.cell? ⟨b,off+k*4,none⟩=some (.int .i64 ak)/\w'.cell? ⟨b,off+k*4+1,none⟩=some (.int .i64 an)/\w'.cell? ⟨b,off+k*4+2,none⟩=some (.string nm)/\w'.cell? ⟨b,off+k*4+3,none⟩=some (.string tx)) w'):=fun w' h9=>⟨(T.x.next h9).c0,(T.x.next h9).c1,(h9.cell (p:=⟨b,_,none⟩) hbl).trans c0,(h9.cell (p:=⟨b,_,none⟩) hbl).trans c1,(h9.cell (p:=⟨b,_,none⟩) hbl).trans c2,(h9.cell (p:=⟨b,_,none⟩) hbl).trans c3⟩
   have HV:Hid (∀ w',Below wr.heap.size wr w'->Below w.heap.size w w'/\ArV w' p q (dk k)/\DS w w' (.slice p D cp) (.slice q F cq) (dk k)):=fun w' h9=>⟨bch T.g h9 (nl _),hv.below h9,T.next h9⟩
   have hlo:=T.x.lt;have n1:∀ j,(Value.slice p D cp).ownBlock=some j->j<wr.heap.size:=fun j hj=>(T.o.o1.lt j hj).2
   have n2:∀ j,(Value.slice q F cq).ownBlock=some j->j<wr.heap.size:=fun j hj=>(T.o.o2.lt j hj).2
   clear HX CD hv T;go_wp2_with fail
   clear c0 c1 c2 c3;have G0:=(bR wr.heap.size wr).drew;refine wp_region_held_drew (S:=fun w'=>w'.cell? ⟨w.heap.size+1,0,none⟩=some (.slice p D cp)/\w'.cell? ⟨w.heap.size+1,1,none⟩=some (.slice q F cq)/\w'.cell? ⟨b,off+k*4,none⟩=some (.int .i64 ak)/\w'.cell? ⟨b,off+k*4+1,none⟩=some (.int .i64 an)/\w'.cell? ⟨b,off+k*4+2,none⟩=some (.string nm)/\w'.cell? ⟨b,off+k*4+3,none⟩=some (.string tx)) (by kernel_rfl) (HSS.out _ G0) (fun hS=>?_);refine wK (i:=0) (fuel:=11) (v:=.agg #[.slice p D cp,.slice q F cq]) rfl (by kernel_rfl) (by kernel_rfl) (by kernel_rfl) (fun _ _ _ h=>h) (Or.inl ⟨by rfl,fun w' h9=>by obtain ⟨k1,k2,k3,k4,k5,k6⟩:=h9;go_simp⟩) hS ?_;refine wK (i:=1) (fuel:=10) (v:=.slice (some ⟨b,off,none⟩) N cap) rfl (by kernel_rfl) (by kernel_rfl) (by kernel_rfl) (fun _ _ _ h=>h) (Or.inl ⟨by rfl,fun w' h9=>by obtain ⟨k1,k2,k3,k4,k5,k6⟩:=h9;go_simp⟩) hS ?_;refine wK (i:=2) (fuel:=9) (v:=.int .i64 k) rfl (by kernel_rfl) (by kernel_rfl) (by kernel_rfl) (fun _ _ _ h=>h) (Or.inl ⟨by rfl,fun w' h9=>by obtain ⟨k1,k2,k3,k4,k5,k6⟩:=h9;go_simp⟩) hS ?_;refine wK (i:=3) (fuel:=8) (v:=.pointer (some ⟨b,off+k*4,none⟩)) rfl (by kernel_rfl) (by kernel_rfl) (by kernel_rfl) (fun _ _ _ h=>h) (Or.inl ⟨by rfl,fun w' h9=>by obtain ⟨k1,k2,k3,k4,k5,k6⟩:=h9;go_simp⟩) hS ?_;refine wK (i:=4) (fuel:=7) (v:=.agg #[.int .i64 ak,.int .i64 an,.string nm,.string tx]) rfl (by kernel_rfl) (by kernel_rfl) (by kernel_rfl) (fun _ _ _ h=>h) (Or.inl ⟨by rfl,fun w' h9=>by obtain ⟨k1,k2,k3,k4,k5,k6⟩:=h9;go_simp⟩) hS ?_;refine wY (rs:=[5,9]) (fuel:=6) (by kernel_rfl) (by simp) ?_;refine rC rfl (fun K hK=>?_) (rC rfl (fun K hK=>?_) rN)
   ·go_simp
    go_at_call 23
    obtain ⟨b1,v1,_⟩:=HV.out _ G0;refine (C.out _ b1 v1).mono ?_;intro e w2 h1;obtain ⟨p2,q2,p3,q3,rfl,O2,G2⟩:=h1.own;have G1:=bch G0 G2 (nl _);generalize A2.dicts.length=D2 at *;generalize A2.files.length=F2 at *;refine hK.out _ _ (HSS.out _ G1) (fun hS1=>?_);clear hK h1 b1 v1;refine wK (i:=6) (fuel:=5) (v:=.tuple #[.agg #[.slice p2 D2 q2,.slice p3 F2 q3],.int .i64 E]) rfl (by kernel_rfl) (by kernel_rfl) (by kernel_rfl) (fun _ _ _ h=>h) (Or.inl ⟨by rfl,fun w' h9=>by obtain ⟨k1,k2,k3,k4,k5,k6⟩:=h9;go_simp⟩) hS1 ?_;refine wK (i:=7) (fuel:=4) (v:=.agg #[.slice p2 D2 q2,.slice p3 F2 q3]) rfl (by kernel_rfl) (by kernel_rfl) (by kernel_rfl) (fun _ _ _ h=>h) (Or.inl ⟨by rfl,fun w' h9=>by obtain ⟨k1,k2,k3,k4,k5,k6⟩:=h9;go_simp⟩) hS1 ?_;refine wK (i:=8) (fuel:=3) (v:=.int .i64 E) rfl (by kernel_rfl) (by kernel_rfl) (by kernel_rfl) (fun _ _ _ h=>h) (Or.inl ⟨by rfl,fun w' h9=>by obtain ⟨k1,k2,k3,k4,k5,k6⟩:=h9;go_simp⟩) hS1 ?_;refine wY (rs:=[9]) (fuel:=2) (by kernel_rfl) (by simp) ?_;refine rC rfl (fun K hK=>?_) rN;go_simp
    have G3:=bch G1 (Za w2 (.cells #[.slice none 0 0,.slice none 0 0] 33 (0,0))) (nl _);have O3:=O2.next (Za w2 (.cells #[.slice none 0 0,.slice none 0 0] 33 (0,0)));have XB:=Bx.new w2 (.slice none 0 0) (.slice none 0 0);have hbB2:=G1.size;have hbB:w.heap.size+1<w2.heap.size:=by omega
    have m1:(Value.slice p2 D2 q2).ownBlock ≠ some w2.heap.size:=fun e=>by have:=(O2.o1.lt _ e).2;omega
    have m2:(Value.slice p3 F2 q3).ownBlock ≠ some w2.heap.size:=fun e=>by have:=(O2.o2.lt _ e).2;omega
    refine hK.out _ _ (HSS.out _ G3) (fun hS2=>?_);clear hK hS2;generalize (w2.alloc (.cells #[.slice none 0 0,.slice none 0 0] 33 (0,0)))=w3 at *;clear G2 O2 G1;generalize w2.heap.size=bB at *;refine wY (rs:=[10]) (fuel:=1) (by kernel_rfl) (by simp) ?_;refine rC rfl (fun K hK=>?_) rN;obtain ⟨_,_,T3⟩:=HV.out _ G3;have O4:=O3.far2 m1 m2 (.slice p2 D2 q2) (.slice p3 F2 q3);have T4:=T3.far2 hbB (fun e=>by have:=n1 _ e;omega) (fun e=>by have:=n2 _ e;omega) (.slice p2 D2 q2) (.slice p3 F2 q3);have G4:=Zu G3 (b:=bB) hbB2 (.slice p2 D2 q2) (.slice p3 F2 q3);have X4:=XB.set (u:=.slice p2 D2 q2) (v:=.slice p3 F2 q3);have x0:=XB.c0;have x1:=XB.c1;have f0:=XB.f0;have f1:=XB.f1;have x1':=(cO w3 ⟨bB,0,none⟩ ⟨bB,1,none⟩ (.slice p2 D2 q2) (by simp)).trans x1;go_simp
    refine hK.out _ _ (HSS.out _ G4) (fun hS3=>?_);clear hK x0 x1 f0 f1 x1' XB O3 T3 G3;refine wY (rs:=[11]) (fuel:=0) (by kernel_rfl) (by simp) ?_;refine rC rfl (fun K hK=>?_) rN;go_simp
    refine hK.out _ _ hS3 (fun _=>?_);clear hK;refine ⟨by kernel_rfl,?_⟩;clear hS hS1 hS3;generalize ((w3.setCell ⟨bB,0,none⟩ (.slice p2 D2 q2)).setCell ⟨bB,1,none⟩ (.slice p3 F2 q3))=w4 at *;by_cases hE:E=0
    ·subst hE;have e2:=HS'.out;rw [if_pos rfl] at e2;have HS2:=Zar e2;clear e2;have T5:=T4.put O4 (by show _<=wr.heap.size;omega);have k0:=X4.c0;have k1:=X4.c1;have y0:=T4.x.c0;have y1:=T4.x.c1;have z0:=T4.x.f0;have z1:=T4.x.f1;clear T4 O4 X4 HS';go_wp2_with fail
     clear k0 k1 y0 y1 z0 z1;go_roundw
     case rel=>exact ⟨k+1,_,_,by omega,by go_num,by rw [HS2.out];exact T5⟩
     case measure=>simp [intOf];omega
    ·have dE:(E == 0)=false:=by simpa using hE
     have e2:=HS'.out;rw [if_neg hE] at e2;have HS2:=Zar e2;clear e2 O4 X4 HS';go_wp2_with fail
     go_roundw
     case rel=>exact ⟨k+1,_,_,by omega,by go_num,by rw [HS2.out];exact T4⟩
     case measure=>simp [intOf];omega
   ·go_simp
    have GA:Below wr.heap.size wr (wr.alloc (.cells #[.slice none 0 0,.slice none 0 0] 33 (0,0))).drew:=(Za wr (.cells #[.slice none 0 0,.slice none 0 0] 33 (0,0))).drew;have XA:=(Bx.new wr (.slice none 0 0) (.slice none 0 0)).next ((bR _ _).drew);refine hK.out _ _ (HSS.out _ GA) (fun hS2=>?_);clear hK hS2;have hsz:(wr.alloc (.cells #[.slice none 0 0,.slice none 0 0] 33 (0,0))).drew.heap.size=wr.heap.size+1:=by simp
    generalize (wr.alloc (.cells #[.slice none 0 0,.slice none 0 0] 33 (0,0))).drew=wA at *;refine wY (rs:=[5]) (fuel:=5) (by kernel_rfl) (by simp) ?_;refine rC rfl (fun K hK=>?_) rN;go_simp
    go_at_call 23
    obtain ⟨b1,v1,_⟩:=HV.out _ GA;refine (C.out _ b1 v1).mono ?_;intro e w2 h1;obtain ⟨p2,q2,p3,q3,rfl,O2,G2⟩:=h1.own;have G3:=bch GA G2 (nl _);generalize A2.dicts.length=D2 at *;generalize A2.files.length=F2 at *;refine hK.out _ _ (HSS.out _ G3) (fun hS1=>?_);clear hK h1 b1 v1;refine wK (i:=6) (fuel:=4) (v:=.tuple #[.agg #[.slice p2 D2 q2,.slice p3 F2 q3],.int .i64 E]) rfl (by kernel_rfl) (by kernel_rfl) (by kernel_rfl) (fun _ _ _ h=>h) (Or.inl ⟨by rfl,fun w' h9=>by obtain ⟨k1,k2,k3,k4,k5,k6⟩:=h9;go_simp⟩) hS1 ?_;refine wK (i:=7) (fuel:=3) (v:=.agg #[.slice p2 D2 q2,.slice p3 F2 q3]) rfl (by kernel_rfl) (by kernel_rfl) (by kernel_rfl) (fun _ _ _ h=>h) (Or.inl ⟨by rfl,fun w' h9=>by obtain ⟨k1,k2,k3,k4,k5,k6⟩:=h9;go_simp⟩) hS1 ?_;refine wK (i:=8) (fuel:=2) (v:=.int .i64 E) rfl (by kernel_rfl) (by kernel_rfl) (by kernel_rfl) (fun _ _ _ h=>h) (Or.inl ⟨by rfl,fun w' h9=>by obtain ⟨k1,k2,k3,k4,k5,k6⟩:=h9;go_simp⟩) hS1 ?_;have XB:=XA.next G2;have O3:=O2;have hbB:w.heap.size+1<wr.heap.size:=hlo;have hbB2:wr.heap.size<=wr.heap.size:=nl _;have m1:(Value.slice p2 D2 q2).ownBlock ≠ some wr.heap.size:=fun e=>by have:=(O2.o1.lt _ e).1;omega
    have m2:(Value.slice p3 F2 q3).ownBlock ≠ some wr.heap.size:=fun e=>by have:=(O2.o2.lt _ e).1;omega
    clear O2 G2 XA
    obtain ⟨w3,rfl⟩:∃ w3,w3=w2:=⟨_,rfl⟩
    obtain ⟨bB,hbe⟩:∃ bB,bB=wr.heap.size:=⟨_,rfl⟩
    refine wY (rs:=[10]) (fuel:=1) (by kernel_rfl) (by simp) ?_;refine rC rfl (fun K hK=>?_) rN;obtain ⟨_,_,T3⟩:=HV.out _ G3;have O4:=O3.far2 m1 m2 (.slice p2 D2 q2) (.slice p3 F2 q3);have T4:=T3.far2 hbB (fun e=>by have:=n1 _ e;omega) (fun e=>by have:=n2 _ e;omega) (.slice p2 D2 q2) (.slice p3 F2 q3);have G4:=Zu G3 (b:=wr.heap.size) hbB2 (.slice p2 D2 q2) (.slice p3 F2 q3);have X4:=XB.set (u:=.slice p2 D2 q2) (v:=.slice p3 F2 q3);have x0:=XB.c0;have x1:=XB.c1;have f0:=XB.f0;have f1:=XB.f1;have x1':=(cO w3 ⟨wr.heap.size,0,none⟩ ⟨wr.heap.size,1,none⟩ (.slice p2 D2 q2) (by simp)).trans x1;go_simp
    refine hK.out _ _ (HSS.out _ G4) (fun hS3=>?_);clear hK x0 x1 f0 f1 x1' XB O3 T3 G3;refine wY (rs:=[11]) (fuel:=0) (by kernel_rfl) (by simp) ?_;refine rC rfl (fun K hK=>?_) rN;go_simp
    refine hK.out _ _ hS3 (fun _=>?_);clear hK;refine ⟨by kernel_rfl,?_⟩;clear hS hS1 hS3;generalize ((w3.setCell ⟨wr.heap.size,0,none⟩ (.slice p2 D2 q2)).setCell ⟨wr.heap.size,1,none⟩ (.slice p3 F2 q3))=w4 at *;by_cases hE:E=0
    ·subst hE;have e2:=HS'.out;rw [if_pos rfl] at e2;have HS2:=Zar e2;clear e2;have T5:=T4.put O4 (by omega);have k0:=X4.c0;have k1:=X4.c1;have y0:=T4.x.c0;have y1:=T4.x.c1;have z0:=T4.x.f0;have z1:=T4.x.f1;clear T4 O4 X4 HS';go_wp2_with fail
     clear k0 k1 y0 y1 z0 z1;go_roundw
     case rel=>exact ⟨k+1,_,_,by omega,by go_num,by rw [HS2.out];exact T5⟩
     case measure=>simp [intOf];omega
    ·have dE:(E == 0)=false:=by simpa using hE
     have e2:=HS'.out;rw [if_neg hE] at e2;have HS2:=Zar e2;clear e2 O4 X4 HS';go_wp2_with fail
     go_roundw
     case rel=>exact ⟨k+1,_,_,by omega,by go_num,by rw [HS2.out];exact T4⟩
     case measure=>simp [intOf];omega
  ·obtain rfl:k=N:=by omega
   have d1:decide ((k:Int)<(k:Int))=false:=by simp
   have d1':decide (k<k)=false:=by simp
   obtain ⟨X9,hq⟩:=T.fin;generalize (dk k).dicts.length=D at *;generalize (dk k).files.length=F at *;have y0:=T.x.c0;have y1:=T.x.c1;have x0:=T.r.c0;have x1:=T.r.c1;have z0:=T.r.f0;have z1:=T.r.f1;clear T hv;go_wp2_with fail
   clear y0 y1 x0 x1 z0 z1;have y0:=X9.c0;have y1:=X9.c1;generalize ((wr.setCell ⟨w.heap.size,0,none⟩ (.slice p D cp)).setCell ⟨w.heap.size,1,none⟩ (.slice q F cq))=wz at *;exact bodyPost_ret (v:=.agg #[.slice p D cp,.slice q F cq]) (by simp [results,Tryz.results9,go_sem,y0,y1]) rfl hq
end Go.Proofs.YtbjbjbpgmojcbacGreat
