/- A part of the proof: what it leans on. -/
import Derived.OrdersHeld
import Derived.Deep.CutRange
import Derived.Deep.Slices
import Derived.SizedLaws
import Derived.Carry
import Derived.ChangeSame
import Derived.Deep.RegionHeld3
import Derived.BigQuiet
import Derived.Test.YtbjbjbpgmojcbabGreatLsBook01
import Derived.Test.YtbjbjbpgmojcbabGreatLsBook05
import Derived.Test.YtbjbjbpgmojcbabGreatLsBook09
import Derived.Test.YtbjbjbpgmojcbabGreatLsBook10
import Derived.Test.YtbjbjbpgmojcbabGreatLsBook11
import Derived.Test.YtbjbjbpgmojcbabGreatLsBook12
import Derived.Test.YtbjbjbpgmojcbabGreatLsBook14
import Derived.Test.YtbjbjbpgmojcbabGreatLsBook20
set_option maxRecDepth 100000
set_option maxHeartbeats 4000000
namespace Go.Proofs.YtbjbjbpgmojcbabGreat
open Go.RowKit
theorem Zcw (s:ByteArray) (k n:Int) (nm tx:ByteArray) (w:World) (hn:nm.size<=140737488355328) (ht:tx.size<=140737488355328) (hM:Mx w) :
 Calls Tryz.prog 46 #[.string s,.agg #[.int .i64 k,.int .i64 n,.string nm,.string tx]] w fun e w'=>e=.returned (.tuple #[.string (Im.stoT s ⟨k,n,nm,tx⟩),.int .i64 (Im.stoE s ⟨k,n,nm,tx⟩)])/\Below w.heap.size w w':=by
 have B1:=Za w (.cells #[.int .i64 k,.int .i64 n,.string nm,.string tx] 54 (0,0));have X1:=XB.new w 54 k n nm tx;obtain ⟨_,hl,hN⟩:=Im.ZgZ s;have hX:=ZdW s;have hWT:=Im.Zra ⟨k,n,nm,tx⟩;have C1:=Zdh s (w.alloc (.cells #[.int .i64 k,.int .i64 n,.string nm,.string tx] 54 (0,0)));have C2:Hid (∀ w',Calls Tryz.prog 39 #[.agg #[.int .i64 k,.int .i64 n,.string nm,.string tx]] w' fun e w2=>e=.returned (.tuple #[.string (Im.wrtT ⟨k,n,nm,tx⟩),.int .i64 (Im.actE ⟨k,n,nm,tx⟩)])/\Below w'.heap.size w' w2):=fun w'=>ZdH k n nm tx w' (by omega) (by omega)
 have CD0:Hid (∀ w' ad cap,Below w.heap.size w w'->XSl w' ad (Im.rplL s)->Calls Tryz.prog 87 #[.slice ad (Im.rplL s).length cap] w' fun e w2=>ZbI (Im.done (Im.rplL s)) w' e w2):=fun w' ad cap h1 h2=>ZjE ad cap _ w' h2 hX (by omega) (hM.below h1)
 have CO0:Hid (∀ w' p cp q cq,Below w.heap.size w w'->ArV w' p q (Im.done (Im.rplL s))->Calls Tryz.prog 36 #[.agg #[.slice p (Im.done (Im.rplL s)).dicts.length cp,.slice q (Im.done (Im.rplL s)).files.length cq],.agg #[.int .i64 k,.int .i64 n,.string nm,.string tx]] w' fun e w2=>ArSaid w' (Im.doA (Im.done (Im.rplL s)) ⟨k,n,nm,tx⟩) (Im.doE (Im.done (Im.rplL s)) ⟨k,n,nm,tx⟩) e w2):=fun w' p cp q cq h1 h2=>Zej p q cp cq _ ⟨k,n,nm,tx⟩ w' h2 (SaneA.done hX) hn ht (hM.below h1)
 have HE:Hid (Im.stoE s ⟨k,n,nm,tx⟩=if Im.rplE s ≠ 0 then Im.rplE s else if Im.actE ⟨k,n,nm,tx⟩ ≠ 0 then Im.actE ⟨k,n,nm,tx⟩ else if (Im.rplL s).length=100\/16384<Im.rplN s+(Im.wrtT ⟨k,n,nm,tx⟩).size then 2 else Im.doE (Im.done (Im.rplL s)) ⟨k,n,nm,tx⟩):=rfl;have HT:Hid (Im.stoT s ⟨k,n,nm,tx⟩=if Im.stoE s ⟨k,n,nm,tx⟩=0 then s.extract 0 (Im.rplN s)++Im.wrtT ⟨k,n,nm,tx⟩ else ⟨#[]⟩):=rfl
 have hz0:Im.rplE s=0->s.size<=16384:=fun h0=>by
  by_cases hb:16384<s.size
  ·unfold Im.rplE at h0;rw [if_pos hb] at h0;cases h0
  ·omega
 clear hX hM;generalize Im.stoT s ⟨k,n,nm,tx⟩=ST at *;generalize Im.stoE s ⟨k,n,nm,tx⟩=SE at *;generalize Im.actE ⟨k,n,nm,tx⟩=AE at *;generalize Im.wrtT ⟨k,n,nm,tx⟩=WT at *;generalize Im.doE (Im.done (Im.rplL s)) ⟨k,n,nm,tx⟩=E3 at *;generalize Im.doA (Im.done (Im.rplL s)) ⟨k,n,nm,tx⟩=A2 at *;generalize Im.done (Im.rplL s)=AD at *;generalize Im.rplE s=RE at *;generalize Im.rplN s=RN at *;have HL:Hid (∀ (w:World) (e:Ending) (w':World),RpSaid (Im.rplL s) RN RE w e w'->∃ ad cap,e=.returned (.tuple #[.slice ad (Im.rplL s).length cap,.int .i64 (RN:Nat),.int .i64 RE])/\XSl w' ad (Im.rplL s)/\Below w.heap.size w w'):=fun _ _ _ h=>h.open
 generalize Im.rplL s=l at *;generalize l.length=N at *;go_enter Tryz.func46,Tryz.ntmps46
 go_wp2_with fail
 generalize (w.alloc (.cells #[.int .i64 k,.int .i64 n,.string nm,.string tx] 54 (0,0)))=w0 at *;refine C1.mono ?_;intro e w1 h1;obtain ⟨ad,cap,rfl,hx,G⟩:=HL.out _ _ _ h1;have X:=X1.next G;have B:=bch B1 G (nl _);clear C1 h1 G X1 B1 HL;by_cases hRE:RE=0
 ·have hs:=hz0 hRE;have hRN:RN<=16384:=by omega
  have hw:wrap64 ((RN:Int)+(WT.size:Int))=(RN:Int)+(WT.size:Int):=by unfold wrap64;omega
  clear hz0;subst hRE;obtain ⟨x0,x1,x2,x3,_⟩:=id X;go_wp2_with fail
  clear x0 x1 x2 x3;refine (C2.out _).mono ?_;rintro e w2 ⟨rfl,G⟩;have X:=X.next G;have hx:=hx.below G;have B:=bch B G (nl _);clear C2 G;by_cases hAE:AE=0
  ·subst hAE;by_cases h100:N=100
   ·have d1:((N:Int) == 100)=true:=by simp;omega
    have d1':(N == 100)=true:=by simpa using h100
    have eE:=HE.out;rw [if_neg (by simp),if_neg (by simp),if_pos (.inl h100)] at eE;have eT:=HT.out;rw [eE,if_neg (by decide)] at eT
    have HR:=(show Hid (SE=2/\ST=⟨#[]⟩) from ⟨eE,eT⟩)
    clear eE eT HE HT;go_wp2_with fail
    go_ret2
    exact ⟨by rw [HR.out.1,HR.out.2];rfl,B⟩
   ·have d1:((N:Int) == 100)=false:=by simp;omega
    have d1':(N == 100)=false:=by simpa using h100
    by_cases hbg:16384<RN+WT.size
    ·have d2:decide ((16384:Int)<(RN:Int)+(WT.size:Int))=true:=decide_eq_true (by omega);have eE:=HE.out;rw [if_neg (by simp),if_neg (by simp),if_pos (.inr hbg)] at eE;have eT:=HT.out;rw [eE,if_neg (by decide)] at eT
     have HR:=(show Hid (SE=2/\ST=⟨#[]⟩) from ⟨eE,eT⟩)
     clear eE eT HE HT;go_wp2_with fail
     go_ret2
     exact ⟨by rw [HR.out.1,HR.out.2];rfl,B⟩
    ·have d2:decide ((16384:Int)<(RN:Int)+(WT.size:Int))=false:=decide_eq_false (by omega);have eE:=HE.out;rw [if_neg (by simp),if_neg (by simp),if_neg (fun h=>by omega)] at eE;have eT:=HT.out;rw [eE] at eT
     have HR:=(show Hid (SE=E3/\ST=if E3=0 then s.extract 0 RN++WT else ⟨#[]⟩) from ⟨eE,eT⟩)
     clear eE eT HE HT;have CD:=CD0.out;go_upto_region 9 with fail
     obtain ⟨u,hu⟩:∃ u,u=w2:=⟨_,rfl⟩
     rw [<-hu] at X hx B |-
     clear hu
     have HSS:Hid (∀ w',Below u.heap.size u w'->(fun w':World=>w'.cell? ⟨w.heap.size,0,none⟩=some (.int .i64 k)/\w'.cell? ⟨w.heap.size,1,none⟩=some (.int .i64 n)/\w'.cell? ⟨w.heap.size,2,none⟩=some (.string nm)/\w'.cell? ⟨w.heap.size,3,none⟩=some (.string tx)) w'):=fun w' h9=>⟨(X.next h9).c0,(X.next h9).c1,(X.next h9).c2,(X.next h9).c3⟩
     have CD:Hid (∀ w',Below u.heap.size u w'->Calls Tryz.prog 87 #[.slice ad N cap] w' fun e w2=>ZbI AD w' e w2):=fun w' h9=>CD0.out w' ad cap (bch B h9 (nl _)) (hx.below h9)
     have CO:Hid (∀ w' p cp q cq,Below u.heap.size u w'->ArV w' p q AD->Calls Tryz.prog 36 #[.agg #[.slice p AD.dicts.length cp,.slice q AD.files.length cq],.agg #[.int .i64 k,.int .i64 n,.string nm,.string tx]] w' fun e w2=>ArSaid w' A2 E3 e w2):=fun w' p cp q cq h9 hv=>CO0.out w' p cp q cq (bch B h9 (nl _)) hv
     clear CD0 CO0 hx;go_cut [10,11] from 39 to 45 (fun _ x wx=>x=.int .i64 E3/\Below u.heap.size u wx)
     case first =>
      clear HR;have G0:=(Below.refl u.heap.size u).drew;refine wp_region_held_drew (S:=fun w'=>w'.cell? ⟨w.heap.size,0,none⟩=some (.int .i64 k)/\w'.cell? ⟨w.heap.size,1,none⟩=some (.int .i64 n)/\w'.cell? ⟨w.heap.size,2,none⟩=some (.string nm)/\w'.cell? ⟨w.heap.size,3,none⟩=some (.string tx)) (by kernel_rfl) (HSS.out _ G0) (fun hS=>?_);refine wpAnyH_take (i:=0) (fuel:=9) (v:=.slice ad N cap) rfl (by kernel_rfl) (by kernel_rfl) (by kernel_rfl) (fun _ _ _ h=>h) (Or.inl ⟨by rfl,fun w' h9=>by obtain ⟨k1,k2,k3,k4⟩:=h9;go_simp⟩) hS ?_;refine wpAnyH_take (i:=2) (fuel:=8) (v:=.agg #[.int .i64 k,.int .i64 n,.string nm,.string tx]) rfl (by kernel_rfl) (by kernel_rfl) (by kernel_rfl) (fun _ _ _ h=>h) (Or.inl ⟨by rfl,fun w' h9=>by obtain ⟨k1,k2,k3,k4⟩:=h9;go_simp⟩) hS ?_;refine wpAnyH_ready (rs:=[1,7]) (fuel:=7) (by kernel_rfl) (by simp) ?_;refine AllReadyH.cons rfl (fun K hK=>?_) (AllReadyH.cons rfl (fun K hK=>?_) AllReadyH.nil)
      ·go_simp
       go_at_call 87
       refine (CD.out _ G0).mono ?_;rintro e wd ⟨v1,v2,rfl,OD,GD⟩;obtain ⟨p,cp,q,cq,rfl,rfl,VD⟩:=OD.slices;have G1:=bch G0 GD (Nat.le_refl _);refine hK.out _ _ (HSS.out _ G1) (fun hS1=>?_);clear hK;generalize AD.dicts.length=D at *;generalize AD.files.length=F at *;refine wpAnyH_ready (rs:=[3,7]) (fuel:=6) (by kernel_rfl) (by simp) ?_;refine AllReadyH.cons rfl (fun K hK=>?_) (AllReadyH.cons rfl (fun K hK=>?_) AllReadyH.nil)
       ·go_simp
        go_at_call 36
        refine (CO.out _ _ _ _ _ G1 VD).mono ?_;intro e wo h1;obtain ⟨p2,q2,p3,q3,rfl,_,GO⟩:=h1.own;have G2:=bch G1 GO (Nat.le_refl _);refine hK.out _ _ (HSS.out _ G2) (fun hS2=>?_);clear hK h1;generalize A2.dicts.length=D2 at *;generalize A2.files.length=F2 at *;refine wpAnyH_take (i:=4) (fuel:=5) (v:=.tuple #[.agg #[.slice p2 D2 q2,.slice p3 F2 q3],.int .i64 E3]) rfl (by kernel_rfl) (by kernel_rfl) (by kernel_rfl) (fun _ _ _ h=>h) (Or.inl ⟨by rfl,fun w' h9=>by obtain ⟨k1,k2,k3,k4⟩:=h9;go_simp⟩) hS2 ?_;refine wpAnyH_take (i:=5) (fuel:=4) (v:=.agg #[.slice p2 D2 q2,.slice p3 F2 q3]) rfl (by kernel_rfl) (by kernel_rfl) (by kernel_rfl) (fun _ _ _ h=>h) (Or.inl ⟨by rfl,fun w' h9=>by obtain ⟨k1,k2,k3,k4⟩:=h9;go_simp⟩) hS2 ?_;refine wpAnyH_take (i:=6) (fuel:=3) (v:=.int .i64 E3) rfl (by kernel_rfl) (by kernel_rfl) (by kernel_rfl) (fun _ _ _ h=>h) (Or.inl ⟨by rfl,fun w' h9=>by obtain ⟨k1,k2,k3,k4⟩:=h9;go_simp⟩) hS2 ?_;refine wpAnyH_ready (rs:=[7]) (fuel:=2) (by kernel_rfl) (by simp) ?_;refine AllReadyH.cons rfl (fun K hK=>?_) AllReadyH.nil;go_simp
        have G3:Below u.heap.size u (wo.alloc (.cells #[.slice none 0 0,.slice none 0 0] 25 (0,0))):=bch G2 (Za wo (.cells #[.slice none 0 0,.slice none 0 0] 25 (0,0))) (nl _);have XN:=Bx.new wo (.slice none 0 0) (.slice none 0 0);have hbN0:u.heap.size<=wo.heap.size:=G2.size;refine hK.out _ _ (HSS.out _ G3) (fun hS3=>?_);clear hK;generalize (wo.alloc (.cells #[.slice none 0 0,.slice none 0 0] 25 (0,0)))=wa at *
        obtain ⟨bN,hbn⟩:∃ bN,bN=wo.heap.size:=⟨_,rfl⟩
        rw [<-hbn] at XN |-
        have hbN:u.heap.size<=bN:=by rw [hbn];exact hbN0
        clear hbn hbN0;refine wpAnyH_ready (rs:=[8]) (fuel:=1) (by kernel_rfl) (by simp) ?_;refine AllReadyH.cons rfl (fun K hK=>?_) AllReadyH.nil;have x0:=XN.c0;have x1:=XN.c1;have f0:=XN.f0;have f1:=XN.f1;have x1':=(World.cell?_setCell_other wa ⟨bN,0,none⟩ ⟨bN,1,none⟩ (.slice p2 D2 q2) (by simp)).trans x1;have G9:=Zp G3 (b:=bN) hbN (.slice p2 D2 q2) (.slice p3 F2 q3);go_simp
        refine hK.out _ _ (HSS.out _ G9) (fun hS9=>?_);clear hK x0 x1 f0 f1 x1';refine wpAnyH_ready (rs:=[9]) (fuel:=0) (by kernel_rfl) (by simp) ?_;refine AllReadyH.cons rfl (fun K hK=>?_) AllReadyH.nil;go_simp
        refine hK.out _ _ hS9 (fun _=>?_);clear hK;refine ⟨by kernel_rfl,?_⟩;go_wp2_with fail
        go_meet
        exact ⟨rfl,G9⟩
       ·go_simp
        have G2:Below u.heap.size u (wd.alloc (.cells #[.slice none 0 0,.slice none 0 0] 25 (0,0))):=bch G1 (Za wd (.cells #[.slice none 0 0,.slice none 0 0] 25 (0,0))) (nl _);have XN:=Bx.new wd (.slice none 0 0) (.slice none 0 0);have hbN0:u.heap.size<=wd.heap.size:=G1.size;refine hK.out _ _ (HSS.out _ G2) (fun hS3=>?_);clear hK;have AB:=Za wd (.cells #[.slice none 0 0,.slice none 0 0] 25 (0,0));generalize (wd.alloc (.cells #[.slice none 0 0,.slice none 0 0] 25 (0,0)))=wa at *
        obtain ⟨bN,hbn⟩:∃ bN,bN=wd.heap.size:=⟨_,rfl⟩
        rw [<-hbn] at XN |-
        have hbN:u.heap.size<=bN:=by rw [hbn];exact hbN0
        clear hbn hbN0;have VA:=VD.below (show Below wd.heap.size wd wa from AB);refine wpAnyH_ready (rs:=[3]) (fuel:=5) (by kernel_rfl) (by simp) ?_;refine AllReadyH.cons rfl (fun K hK=>?_) AllReadyH.nil;go_simp
        go_at_call 36
        refine (CO.out _ _ _ _ _ G2 VA).mono ?_;intro e wo h1;obtain ⟨p2,q2,p3,q3,rfl,_,GO⟩:=h1.own;have G3:=bch G2 GO (Nat.le_refl _);refine hK.out _ _ (HSS.out _ G3) (fun hS2=>?_);clear hK h1;generalize A2.dicts.length=D2 at *;generalize A2.files.length=F2 at *;have XN:=XN.next GO;refine wpAnyH_take (i:=4) (fuel:=4) (v:=.tuple #[.agg #[.slice p2 D2 q2,.slice p3 F2 q3],.int .i64 E3]) rfl (by kernel_rfl) (by kernel_rfl) (by kernel_rfl) (fun _ _ _ h=>h) (Or.inl ⟨by rfl,fun w' h9=>by obtain ⟨k1,k2,k3,k4⟩:=h9;go_simp⟩) hS2 ?_;refine wpAnyH_take (i:=5) (fuel:=3) (v:=.agg #[.slice p2 D2 q2,.slice p3 F2 q3]) rfl (by kernel_rfl) (by kernel_rfl) (by kernel_rfl) (fun _ _ _ h=>h) (Or.inl ⟨by rfl,fun w' h9=>by obtain ⟨k1,k2,k3,k4⟩:=h9;go_simp⟩) hS2 ?_;refine wpAnyH_take (i:=6) (fuel:=2) (v:=.int .i64 E3) rfl (by kernel_rfl) (by kernel_rfl) (by kernel_rfl) (fun _ _ _ h=>h) (Or.inl ⟨by rfl,fun w' h9=>by obtain ⟨k1,k2,k3,k4⟩:=h9;go_simp⟩) hS2 ?_;refine wpAnyH_ready (rs:=[8]) (fuel:=1) (by kernel_rfl) (by simp) ?_;refine AllReadyH.cons rfl (fun K hK=>?_) AllReadyH.nil;have x0:=XN.c0;have x1:=XN.c1;have f0:=XN.f0;have f1:=XN.f1;have x1':=(World.cell?_setCell_other wo ⟨bN,0,none⟩ ⟨bN,1,none⟩ (.slice p2 D2 q2) (by simp)).trans x1;have G9:=Zp G3 (b:=bN) hbN (.slice p2 D2 q2) (.slice p3 F2 q3);go_simp
        refine hK.out _ _ (HSS.out _ G9) (fun hS9=>?_);clear hK x0 x1 f0 f1 x1';refine wpAnyH_ready (rs:=[9]) (fuel:=0) (by kernel_rfl) (by simp) ?_;refine AllReadyH.cons rfl (fun K hK=>?_) AllReadyH.nil;go_simp
        refine hK.out _ _ hS9 (fun _=>?_);clear hK;refine ⟨by kernel_rfl,?_⟩;go_wp2_with fail
        go_meet
        exact ⟨rfl,G9⟩
      ·go_simp
       have G1:Below u.heap.size u (u.alloc (.cells #[.slice none 0 0,.slice none 0 0] 25 (0,0))).drew:=(Za u (.cells #[.slice none 0 0,.slice none 0 0] 25 (0,0))).drew;have XN:=(Bx.new u (.slice none 0 0) (.slice none 0 0)).next ((bR _ _).drew);have hbN0:u.heap.size<=u.heap.size:=nl _;refine hK.out _ _ (HSS.out _ G1) (fun hS3=>?_);clear hK;generalize (u.alloc (.cells #[.slice none 0 0,.slice none 0 0] 25 (0,0))).drew=wa at *
       obtain ⟨bN,hbn⟩:∃ bN,bN=u.heap.size:=⟨_,rfl⟩
       rw [<-hbn] at XN |-
       have hbN:u.heap.size<=bN:=by rw [hbn];exact hbN0
       clear hbn hbN0;refine wpAnyH_ready (rs:=[1]) (fuel:=6) (by kernel_rfl) (by simp) ?_;refine AllReadyH.cons rfl (fun K hK=>?_) AllReadyH.nil;go_simp
       go_at_call 87
       refine (CD.out _ G1).mono ?_;rintro e wd ⟨v1,v2,rfl,OD,GD⟩;obtain ⟨p,cp,q,cq,rfl,rfl,VD⟩:=OD.slices;have G2:=bch G1 GD (Nat.le_refl _);refine hK.out _ _ (HSS.out _ G2) (fun hS1=>?_);clear hK;generalize AD.dicts.length=D at *;generalize AD.files.length=F at *;have XN:=XN.next GD;refine wpAnyH_ready (rs:=[3]) (fuel:=5) (by kernel_rfl) (by simp) ?_;refine AllReadyH.cons rfl (fun K hK=>?_) AllReadyH.nil;go_simp
       go_at_call 36
       refine (CO.out _ _ _ _ _ G2 VD).mono ?_;intro e wo h1;obtain ⟨p2,q2,p3,q3,rfl,_,GO⟩:=h1.own;have G3:=bch G2 GO (Nat.le_refl _);refine hK.out _ _ (HSS.out _ G3) (fun hS2=>?_);clear hK h1;generalize A2.dicts.length=D2 at *;generalize A2.files.length=F2 at *;have XN:=XN.next GO;refine wpAnyH_take (i:=4) (fuel:=4) (v:=.tuple #[.agg #[.slice p2 D2 q2,.slice p3 F2 q3],.int .i64 E3]) rfl (by kernel_rfl) (by kernel_rfl) (by kernel_rfl) (fun _ _ _ h=>h) (Or.inl ⟨by rfl,fun w' h9=>by obtain ⟨k1,k2,k3,k4⟩:=h9;go_simp⟩) hS2 ?_;refine wpAnyH_take (i:=5) (fuel:=3) (v:=.agg #[.slice p2 D2 q2,.slice p3 F2 q3]) rfl (by kernel_rfl) (by kernel_rfl) (by kernel_rfl) (fun _ _ _ h=>h) (Or.inl ⟨by rfl,fun w' h9=>by obtain ⟨k1,k2,k3,k4⟩:=h9;go_simp⟩) hS2 ?_;refine wpAnyH_take (i:=6) (fuel:=2) (v:=.int .i64 E3) rfl (by kernel_rfl) (by kernel_rfl) (by kernel_rfl) (fun _ _ _ h=>h) (Or.inl ⟨by rfl,fun w' h9=>by obtain ⟨k1,k2,k3,k4⟩:=h9;go_simp⟩) hS2 ?_;refine wpAnyH_ready (rs:=[8]) (fuel:=1) (by kernel_rfl) (by simp) ?_;refine AllReadyH.cons rfl (fun K hK=>?_) AllReadyH.nil;have x0:=XN.c0;have x1:=XN.c1;have f0:=XN.f0;have f1:=XN.f1;have x1':=(World.cell?_setCell_other wo ⟨bN,0,none⟩ ⟨bN,1,none⟩ (.slice p2 D2 q2) (by simp)).trans x1;have G9:=Zp G3 (b:=bN) hbN (.slice p2 D2 q2) (.slice p3 F2 q3);go_simp
       refine hK.out _ _ (HSS.out _ G9) (fun hS9=>?_);clear hK x0 x1 f0 f1 x1';refine wpAnyH_ready (rs:=[9]) (fuel:=0) (by kernel_rfl) (by simp) ?_;refine AllReadyH.cons rfl (fun K hK=>?_) AllReadyH.nil;go_simp
       refine hK.out _ _ hS9 (fun _=>?_);clear hK;refine ⟨by kernel_rfl,?_⟩;go_wp2_with fail
       go_meet
       exact ⟨rfl,G9⟩
     case rest =>
      obtain ⟨rfl,G⟩:=hcut;have X:=X.next G;have B:=bch B G (nl _);clear G HSS CD CO;by_cases hE3:E3=0
      ·subst hE3;have hri:(RN:Int)<=(s.size:Int):=by omega
       have hb9:¬ 9223372036854775807<RN+WT.size:=by omega
       go_wp2_with fail
       go_ret2
       exact ⟨by rw [HR.out.1,HR.out.2,if_pos trivial];rfl,B⟩
      ·have dE:(E3 == 0)=false:=by simpa using hE3
       go_wp2_with fail
       go_ret2
       exact ⟨by rw [HR.out.1,HR.out.2,if_neg hE3];rfl,B⟩
  ·have dA:(AE == 0)=false:=by simpa using hAE
   have eE:=HE.out;rw [if_neg (by simp),if_pos hAE] at eE;have eT:=HT.out;rw [eE,if_neg hAE] at eT
   have HR:=(show Hid (SE=AE/\ST=⟨#[]⟩) from ⟨eE,eT⟩)
   clear eE eT HE HT;go_wp2_with fail
   go_ret2
   exact ⟨by rw [HR.out.1,HR.out.2];rfl,B⟩
 ·have dR:(RE == 0)=false:=by simpa using hRE
  have eE:=HE.out;rw [if_pos hRE] at eE;have eT:=HT.out;rw [eE,if_neg hRE] at eT
  have HR:=(show Hid (SE=RE/\ST=⟨#[]⟩) from ⟨eE,eT⟩)
  clear eE eT HE HT;go_wp2_with fail
  go_ret2
  exact ⟨by rw [HR.out.1,HR.out.2];rfl,B⟩
theorem Zgv (s1 s2 b t3:ByteArray) (A:Ar.A) (l:List Im.Act) (w:World) (z1:s1.size<=100) (z2:b.size<=100) (hA:A.dicts.length=1) (hF:A.files.length=1) (hl:l.length=1) (hb:(b.toList == [5,1,2,1,97,0])=true)
 (C1:Hid (∀ w',Below w.heap.size w w'->Calls Tryz.prog 46 #[.string ⟨#[]⟩,.agg #[.int .i64 1,.int .i64 0,.string ⟨#[97]⟩,.string ⟨#[120,121,122]⟩]] w' fun e w2=>e=.returned (.tuple #[.string s1,.int .i64 0])/\Below w'.heap.size w' w2))
 (C2:Hid (∀ w',Below w.heap.size w w'->Calls Tryz.prog 46 #[.string (s1++⟨#[7]⟩),.agg #[.int .i64 3,.int .i64 8,.string ⟨#[]⟩,.string ⟨#[]⟩]] w' fun e w2=>e=.returned (.tuple #[.string s2,.int .i64 0])/\Below w'.heap.size w' w2))
 (C3:Hid (∀ w',Below w.heap.size w w'->Calls Tryz.prog 45 #[.string s2] w' fun e w2=>Zcb A 2 0 w' e w2))
 (C4:Hid (∀ w',Below w.heap.size w w'->Calls Tryz.prog 46 #[.string s2,.agg #[.int .i64 2,.int .i64 0,.string ⟨#[98]⟩,.string ⟨#[]⟩]] w' fun e w2=>e=.returned (.tuple #[.string t3,.int .i64 5])/\Below w'.heap.size w' w2))
 (C5:Hid (∀ w',Calls Tryz.prog 39 #[.agg #[.int .i64 1,.int .i64 2,.string ⟨#[97]⟩,.string ⟨#[]⟩]] w' fun e w2=>e=.returned (.tuple #[.string b,.int .i64 0])/\Below w'.heap.size w' w2))
 (C6:Hid (∀ w',Calls Tryz.prog 42 #[.string (b++⟨#[120]⟩)] w' fun e w2=>RpSaid l 6 0 w' e w2)) :
 Calls Tryz.prog 38 #[] w fun e w'=>e=.returned (.bool true)/\Below w.heap.size w w':=by
 have O3:Hid (∀ (w:World) (e:Ending) (w':World),Zcb A 2 0 w e w'->∃ x p y q,e=.returned (.tuple #[.agg #[.slice x 1 p,.slice y 1 q],.int .i64 2,.int .i64 0])/\Below w.heap.size w w'):=fun w e w' h=>by
  obtain ⟨v1,v2,rfl,O,G⟩:=h;obtain ⟨x,p,y,q,rfl,rfl,_⟩:=O.slices;exact ⟨x,p,y,q,by rw [hA,hF];rfl,G⟩
 have O6:Hid (∀ (w:World) (e:Ending) (w':World),RpSaid l 6 0 w e w'->∃ x p,e=.returned (.tuple #[.slice x 1 p,.int .i64 6,.int .i64 0])/\Below w.heap.size w w'):=fun w e w' h=>by
  obtain ⟨x,p,rfl,_,G⟩:=h.open;exact ⟨x,p,by rw [hl];rfl,G⟩
 clear hA hF hl;go_enter Tryz.func38,Tryz.ntmps38
 go_wp2_with fail
 refine (C1.out _ (bR _ _)).mono ?_;rintro e w1 ⟨rfl,B⟩;clear C1;go_wp2_with fail
 refine (C2.out _ B).mono ?_;rintro e w2 ⟨rfl,G⟩;have B:=bch B G (nl _);clear C2 G;go_wp2_with fail
 refine (C3.out _ B).mono ?_;intro e w3 h1;obtain ⟨x,p,y,q,rfl,G⟩:=O3.out _ _ _ h1;have GA:=Za w3 (.cells #[.slice x 1 p,.slice y 1 q] 25 (0,0));have X:=Bx.new w3 (.slice x 1 p) (.slice y 1 q);have B:=bch (bch B G (nl _)) GA (nl _);clear C3 G GA h1 O3;go_wp2_with fail
 generalize (w3.alloc (.cells #[.slice x 1 p,.slice y 1 q] 25 (0,0)))=u3 at *;generalize w3.heap.size=bA at *;refine (C4.out _ B).mono ?_;rintro e w4 ⟨rfl,G⟩;have B:=bch B G (nl _);have X:=X.next G;clear C4 G;go_wp2_with fail
 refine (C5.out _).mono ?_;rintro e w5 ⟨rfl,G⟩;have B:=bch B G (nl _);have X:=X.next G;clear C5 G;go_wp2_with fail
 refine (C6.out _).mono ?_;intro e w6 h1;obtain ⟨x6,p6,rfl,G⟩:=O6.out _ _ _ h1;have B:=bch B G (nl _);have X:=X.next G;clear C6 G h1 O6;have x0:=X.c0;have x1:=X.c1;clear X;go_wp2_with fail
 go_ret
 exact ⟨rfl,B⟩
namespace Im
def l1:ByteArray:=⟨#[8,1,0,1,97,3,120,121,122]⟩
def l2:ByteArray:=⟨#[8,1,0,1,97,3,120,121,122,4,3,8,0,0]⟩
def l4:ByteArray:=⟨#[5,1,2,1,97,0]⟩
theorem b1e:stoE ⟨#[]⟩ ⟨1,0,⟨#[97]⟩,⟨#[120,121,122]⟩⟩=0:=by kernel_rfl
theorem b1t:stoT ⟨#[]⟩ ⟨1,0,⟨#[97]⟩,⟨#[120,121,122]⟩⟩=l1:=by kernel_rfl
theorem b2e:stoE (l1++⟨#[7]⟩) ⟨3,8,⟨#[]⟩,⟨#[]⟩⟩=0:=by kernel_rfl
theorem b2t:stoT (l1++⟨#[7]⟩) ⟨3,8,⟨#[]⟩,⟨#[]⟩⟩=l2:=by kernel_rfl
theorem b3n:(rplL l2).length=2:=by kernel_rfl
theorem b3d:(done (rplL l2)).dicts.length=1:=by kernel_rfl
theorem b3f:(done (rplL l2)).files.length=1:=by kernel_rfl
theorem b3e:rplE l2=0:=by kernel_rfl
theorem b4e:stoE l2 ⟨2,0,⟨#[98]⟩,⟨#[]⟩⟩=5:=by kernel_rfl
theorem b5t:wrtT ⟨1,2,⟨#[97]⟩,⟨#[]⟩⟩=l4:=by kernel_rfl
theorem b5e:actE ⟨1,2,⟨#[97]⟩,⟨#[]⟩⟩=0:=by kernel_rfl
theorem b6l:(rplL (l4++⟨#[120]⟩)).length=1:=by kernel_rfl
theorem b6n:rplN (l4++⟨#[120]⟩)=6:=by kernel_rfl
theorem b6e:rplE (l4++⟨#[120]⟩)=0:=by kernel_rfl
theorem b7:Nat.ble l1.size 100=true:=by kernel_rfl
theorem b9:Nat.ble l4.size 100=true:=by kernel_rfl
theorem b8:(l4.toList == [5,1,2,1,97,0])=true:=by kernel_rfl
end Im
theorem ZdB (a b c:UInt8):(⟨#[]⟩:ByteArray).size<=140737488355328/\(⟨#[a]⟩:ByteArray).size<=140737488355328/\(⟨#[a,b,c]⟩:ByteArray).size<=140737488355328:=by
 refine ⟨?_,?_,?_⟩
 ·show 0<=_;omega
 ·show 1<=_;omega
 ·show 3<=_;omega
theorem Zvb (w:World) (hM:Mx w):Calls Tryz.prog 46 #[.string ⟨#[]⟩,.agg #[.int .i64 1,.int .i64 0,.string ⟨#[97]⟩,.string ⟨#[120,121,122]⟩]] w fun e w2=>e=.returned (.tuple #[.string Im.l1,.int .i64 0])/\Below w.heap.size w w2:=by
 have h:=Zcw ⟨#[]⟩ 1 0 ⟨#[97]⟩ ⟨#[120,121,122]⟩ w (ZdB 97 0 0).2.1 (ZdB 120 121 122).2.2 hM;rw [Im.b1t,Im.b1e] at h;exact h
theorem ZuZ (w:World) (hM:Mx w):Calls Tryz.prog 46 #[.string (Im.l1++⟨#[7]⟩),.agg #[.int .i64 3,.int .i64 8,.string ⟨#[]⟩,.string ⟨#[]⟩]] w fun e w2=>e=.returned (.tuple #[.string Im.l2,.int .i64 0])/\Below w.heap.size w w2:=by
 have h:=Zcw (Im.l1++⟨#[7]⟩) 3 8 ⟨#[]⟩ ⟨#[]⟩ w (ZdB 0 0 0).1 (ZdB 0 0 0).1 hM;rw [Im.b2t,Im.b2e] at h;exact h
theorem Zvi (w:World) (hM:Mx w):Calls Tryz.prog 46 #[.string Im.l2,.agg #[.int .i64 2,.int .i64 0,.string ⟨#[98]⟩,.string ⟨#[]⟩]] w fun e w2=>e=.returned (.tuple #[.string (Im.stoT Im.l2 ⟨2,0,⟨#[98]⟩,⟨#[]⟩⟩),.int .i64 5])/\Below w.heap.size w w2:=by
 have h:=Zcw Im.l2 2 0 ⟨#[98]⟩ ⟨#[]⟩ w (ZdB 98 0 0).2.1 (ZdB 0 0 0).1 hM;rw [Im.b4e] at h;exact h
theorem Zva (w:World) (hM:Mx w):Calls Tryz.prog 45 #[.string Im.l2] w fun e w2=>Zcb (Im.done (Im.rplL Im.l2)) 2 0 w e w2:=by
 have h:=Zez Im.l2 w hM;rw [Im.b3n,Im.b3e] at h;exact h
theorem Zvr (w:World):Calls Tryz.prog 39 #[.agg #[.int .i64 1,.int .i64 2,.string ⟨#[97]⟩,.string ⟨#[]⟩]] w fun e w2=>e=.returned (.tuple #[.string Im.l4,.int .i64 0])/\Below w.heap.size w w2:=by
 have h:=ZdH 1 2 ⟨#[97]⟩ ⟨#[]⟩ w (Nat.le_trans (ZdB 97 0 0).2.1 (by omega)) (Nat.le_trans (ZdB 0 0 0).1 (by omega));rw [Im.b5t,Im.b5e] at h;exact h
theorem Zvt (w:World):Calls Tryz.prog 42 #[.string (Im.l4++⟨#[120]⟩)] w fun e w2=>RpSaid (Im.rplL (Im.l4++⟨#[120]⟩)) 6 0 w e w2:=by
 have h:=Zdh (Im.l4++⟨#[120]⟩) w;rw [Im.b6n,Im.b6e] at h;exact h
theorem ZdN (w:World) (hM:Mx w):Calls Tryz.prog 38 #[] w fun e w'=>e=.returned (.bool true)/\Below w.heap.size w w' :=
 Zgv Im.l1 Im.l2 Im.l4 _ _ _ w (Nat.le_of_ble_eq_true Im.b7) (Nat.le_of_ble_eq_true Im.b9) Im.b3d Im.b3f Im.b6l Im.b8 (fun w' h9=>Zvb w' (hM.below h9)) (fun w' h9=>ZuZ w' (hM.below h9)) (fun w' h9=>Zva w' (hM.below h9)) (fun w' h9=>Zvi w' (hM.below h9)) (fun w'=>Zvr w') (fun w'=>Zvt w')
theorem Zku (ad af ad' af':Option Addr) (cd cf cd' cf':Nat) (a:Ar.A) (w:World) (h:ArV w ad af a) (h':ArV w ad' af' a) (hD:a.dicts.length<=8796093022208) (hN:a.files.length<=8796093022208) :
 Calls Tryz.prog 20 #[av ad cd af cf a,av ad' cd' af' cf' a] w fun e w'=>e=.returned (.bool true)/\Below w.heap.size w w':=by
 have hb:=fun o p=>((Below.refl w.heap.size w).alloc (Nat.le_refl _) o).alloc (by simp) p
 have HX:Hid (∀ w',Below w.heap.size w w'->∀ k,k<a.dicts.length->∃ b off,ad=some ⟨b,off,none⟩/\b<w'.heap.size/\w'.cell? ⟨b,off+k,none⟩=some (.string (Tr.xa a.dicts k))):=fun w' hb k hk=>(h.ds.below hb).at hk
 have HX':Hid (∀ w',Below w.heap.size w w'->∀ k,k<a.dicts.length->∃ b off,ad'=some ⟨b,off,none⟩/\b<w'.heap.size/\w'.cell? ⟨b,off+k,none⟩=some (.string (Tr.xa a.dicts k))):=fun w' hb k hk=>(h'.ds.below hb).at hk
 have HF:Hid (∀ w',Below w.heap.size w w'->∀ k,k<a.files.length->∃ b off,af=some ⟨b,off,none⟩/\b<w'.heap.size/\FlC w' b (off+k*5) (Ar.fa a.files k)):=fun w' h9 k hk=>(h.fs.below h9).at hk
 have HF':Hid (∀ w',Below w.heap.size w w'->∀ k,k<a.files.length->∃ b off,af'=some ⟨b,off,none⟩/\b<w'.heap.size/\FlC w' b (off+k*5) (Ar.fa a.files k)):=fun w' h9 k hk=>(h'.fs.below h9).at hk
 unfold av;clear h h';generalize a.dicts.length=D at *;generalize a.files.length=N at *;have hDi:(D:Int)<=8796093022208:=by omega
 have hNi:(N:Int)<=8796093022208:=by omega
 go_enter Tryz.func20,Tryz.ntmps20
 go_wp2_with fail
 obtain ⟨k1,k2⟩:=box2 w #[.slice ad D cd,.slice af N cf] #[.slice ad' D cd',.slice af' N cf'] 25 25;have B1:=hb (.cells #[.slice ad D cd,.slice af N cf] 25 (0,0)) (.cells #[.slice ad' D cd',.slice af' N cf'] 25 (0,0));generalize ((w.alloc (.cells #[.slice ad D cd,.slice af N cf] 25 (0,0))).alloc (.cells #[.slice ad' D cd',.slice af' N cf'] 25 (0,0)))=w1 at *;have a0:w1.cell? ⟨w.heap.size,0,none⟩=some (.slice ad D cd):=k1 0;have a1:w1.cell? ⟨w.heap.size,1,none⟩=some (.slice af N cf):=k1 1;have b0:w1.cell? ⟨w.heap.size+1,0,none⟩=some (.slice ad' D cd'):=k2 0;have b1:w1.cell? ⟨w.heap.size+1,1,none⟩=some (.slice af' N cf'):=k2 1;clear k1 k2;go_loopw [5] (fun i wr=>∃ k:Nat,k<=D/\i=.int .i64 k/\(∀ p,wr.cell? p=w1.cell? p)/\Below w.heap.size w wr) (fun i _=>D - (intOf i).toNat)
 case atStart=>exact ⟨0,by omega,rfl,fun _=>rfl,B1⟩
 case round =>
  obtain ⟨k,hk2,rfl,hsame,B2⟩:=hrel;have a0':=(hsame _).trans a0;have b0':=(hsame _).trans b0;have a1':=(hsame _).trans a1;have b1':=(hsame _).trans b1;by_cases hlt:k<D
  ·have d1:decide ((k:Int)<(D:Int))=true:=by simp;omega
   have d1':decide (k<D)=true:=by simp;omega
   have hki:(k:Int)<(D:Int):=by omega
   obtain ⟨b,off,rfl,hbl,hc⟩:=HX.out wr B2 k hlt;obtain ⟨b',off',rfl,hbl',hc'⟩:=HX'.out wr B2 k hlt;have HSm:Hid (∀ p,wr.cell? p=w1.cell? p):=hsame;clear hsame;generalize Tr.xa a.dicts k=X at *;go_wp2_with fail
   go_region
   all_goals
    go_wp2_with fail
    go_roundw
    case rel=>exact ⟨k+1,by omega,by go_num,fun p=>HSm.out p,B2.drew⟩
    case measure=>simp [intOf];omega
  ·obtain rfl:k=D:=by omega
   have d1:decide ((k:Int)<(k:Int))=false:=by simp
   have HSm:Hid (∀ p,wr.cell? p=w1.cell? p):=hsame;clear hsame;go_wp2_with fail
   go_loopw [6] (fun i w2=>∃ m:Nat,m<=N/\i=.int .i64 m/\(∀ p,w2.cell? p=w1.cell? p)/\Below w.heap.size w w2) (fun i _=>N - (intOf i).toNat)
   case atStart=>exact ⟨0,by omega,rfl,HSm.out,B2⟩
   case round =>
    obtain ⟨m,hm2,rfl,hsame2,B3⟩:=hrel;have a2:=(hsame2 _).trans a1;have b2:=(hsame2 _).trans b1;have HSm2:Hid (∀ p,World.cell? _ p=w1.cell? p):=hsame2;clear hsame2 a0' b0' a1' b1';by_cases hlt:m<N
    ·have d2:decide ((m:Int)<(N:Int))=true:=by simp;omega
     have d2':decide (m<N)=true:=by simp;omega
     have hmi:(m:Int)<(N:Int):=by omega
     obtain ⟨b,off,rfl,hbl,hcell⟩:=HF.out _ B3 m hlt;obtain ⟨c0,c1,c2,c3,c4⟩:=hcell;obtain ⟨b',off',rfl,hbl',hcell'⟩:=HF'.out _ B3 m hlt;obtain ⟨e0,e1,e2,e3,e4⟩:=hcell';generalize (Ar.fa a.files m).name=f0 at *;generalize (Ar.fa a.files m).dict=f1 at *;generalize (Ar.fa a.files m).size=f2 at *;generalize (Ar.fa a.files m).sum=f3 at *;generalize (Ar.fa a.files m).blk=f4 at *;go_wp2_with fail
     go_region
     all_goals
      go_wp2_with fail
      go_roundw
      case rel=>exact ⟨m+1,by omega,by go_num,fun p=>HSm2.out p,B3.drew⟩
      case measure=>simp [intOf];omega
    ·obtain rfl:m=N:=by omega
     have d2:decide ((m:Int)<(m:Int))=false:=by simp
     go_wp2_with fail
     go_ret
     exact ⟨rfl,B3⟩
open Go.ChangeShapes Go.WideShapes Go.Deep
theorem Zcj {H:Type} {P:Program} {e:TypeId} {f:Nat->DataW H} {n i:Nat} (hi:i<n) {m:Nat} (h:m ∈ (f i).weights P e):m ∈ DataW.weightsAll P e ((List.range n).map f):=by
 have gen:∀ (l:List (DataW H)) (d:DataW H),d ∈ l->m ∈ d.weights P e->m ∈ DataW.weightsAll P e l:=by
  intro l
  induction l with
  | nil=>intro d h;simp at h
  | cons a l ih =>
   intro d hd hm;rw [DataW.weightsAll,List.mem_append];rcases List.mem_cons.1 hd with rfl | hd
   ·exact .inl hm
   ·exact .inr (ih d hd hm)
 exact gen _ (f i) (List.mem_map.2 ⟨i,List.mem_range.2 hi,rfl⟩) h
theorem Zrn {W:World} {a:Addr} {n:Nat} {ps:List MemPlace} (h:∀ x ∈ MemPlace.row a (n+1)++ps,x.block<W.heap.size):a.block<W.heap.size:=by
 refine h (.cell a.block (a.off+0)) ?_;rw [List.mem_append]
 left
 exact List.mem_map.2 ⟨0,List.mem_range.2 (by omega),rfl⟩
theorem Ziy:laidOutB Tryz.prog=true:=by kernel_rfl
theorem Zph:Tryz.prog.cellsOf 9=1:=by kernel_rfl
theorem Zqw:Tryz.prog.bytesOf 9=16:=by kernel_rfl
theorem ZkM {H:Type} {enc:TypeId × Value->H} {W:World} {a:Option Addr} {len cap fuel:Nat} {d:DataW H} {ps:List MemPlace}
 (hf:DataW.trod enc Tryz.prog W 0 (fun _=>true) true fuel 22 [.slice a len cap]=some (d,ps))
 (hsz:∀ n ∈ d.weights Tryz.prog 22,n<=reachBytes) :
 ∃ l:List ByteArray,len=l.length/\TxSl W a l/\l.length<=8796093022208/\(∀ i,(Tr.xa l i).size<=140737488355328):=by
 have lt:∀ x ∈ ps,x.block<W.heap.size:=DataW.trod_lt fuel _ _ _ hf;rcases open_slice1 Tryz.underlying22 Zph hf with ⟨hcs,_⟩ | ⟨x,len',cap',m,n,V,D,Pl,hcs,_,hl,hm,hmm,hx,each⟩
 ·simp at hcs;obtain ⟨rfl,rfl,rfl⟩:=hcs;exact ⟨[],rfl,.inl rfl,by simp,fun i=>by show 0<=_;omega⟩
 ·simp at hcs;obtain ⟨rfl,rfl,rfl⟩:=hcs;simp only [if_true] at hmm;subst hmm;have hx1:=congrArg Prod.fst hx;have hx2:=congrArg Prod.snd hx;dsimp only at hx1 hx2;rw [hx1] at hsz;rw [hx2] at lt;clear hx hx1 hx2 hf
  have key:∀ i,i<m->∃ q:ByteArray,W.cell? (x.add i)=some (.string q)/\D i=.lit (.string q.data.toList):=by
   intro i hi;obtain ⟨h1,h2⟩:=each i hi;obtain ⟨s,hs0,hy0,_⟩:=DataW.trod_string Tryz.underlying9 h2;simp only [List.cons.injEq,and_true] at hs0;rw [hs0] at h1;exact ⟨s,h1,congrArg Prod.fst hy0⟩
  have:Inhabited ByteArray:=⟨⟨#[]⟩⟩
  obtain ⟨q,hq⟩:=choose_lt key;have hlen:((List.range len).map q).length=len:=by simp
  have hxa:∀ i,i<len->Tr.xa ((List.range len).map q) i=q i:=fun i hi=>by simp [Tr.xa,hi]
  refine ⟨(List.range len).map q,hlen.symm,?_,?_,?_⟩
  ·by_cases h0:len=0
   ·left;simp [h0]
   ·right
    obtain ⟨b,off,sp⟩:=x;have hc0:=(hq 0 (by omega)).1;have hsp:sp=none:=by simpa [Addr.add] using World.cell?_spot hc0
    subst hsp
    have hb:b<W.heap.size:=by
     rw [show m=(m - 1)+1 by omega] at lt;exact Zrn lt
    refine ⟨b,off,rfl,hb,fun i hi=>?_⟩;rw [hlen] at hi;rw [hxa i hi,<-(hq i (by omega)).1,add_plain]
  ·rw [hlen];have:=hsz ((((List.range len).map D).length+((List.range (m - len)).map fun j=>D (len+j)).length)*Tryz.prog.bytesOf 9) (by rw [DataW.weights,Tryz.underlying22];exact List.mem_cons_self ..);rw [Zqw] at this;simp [reachBytes] at this;omega
  ·intro i;by_cases hi:i<len
   ·rw [hxa i hi];have hd:=(hq i (by omega)).2
    have hw:(q i).data.toList.length ∈ (D i).weights Tryz.prog 9:=by
     rw [hd,DataW.weights];exact List.mem_singleton.2 rfl
    have:=hsz _ (by rw [DataW.weights,Tryz.underlying22];exact List.mem_cons_of_mem _ (List.mem_append.2 (.inl (Zcj hi hw))));have h2:(q i).data.toList.length=(q i).size:=by simp
    rw [h2] at this;simp [reachBytes] at this;omega
   ·have:Tr.xa ((List.range len).map q) i=⟨#[]⟩:=by simp [Tr.xa,show len<=i by omega]
    rw [this];show 0<=_;omega
theorem Zjq:Tryz.prog.cellsOf 46=5:=by kernel_rfl
theorem ZpH:Tryz.prog.bytesOf 46=56:=by kernel_rfl
theorem Zrf:Tryz.prog.cellsOf 9=1:=by kernel_rfl
theorem Zrv:Tryz.prog.cellsOf 3=1:=by kernel_rfl
theorem ZqO:Tryz.prog.cellsOf 25=2:=by kernel_rfl
theorem Zui:Tryz.prog.cellsOf 22=1:=by kernel_rfl
theorem Zuh:Tryz.prog.cellsOf 23=1:=by kernel_rfl
def ZaK:Option TypeDesc->List (TypeId × Nat)
 | some (.struct fs)=>fs.toList.map (fun f=>(f.type,f.offset))
 | _=>[]
theorem Zsh {u:Option TypeDesc} {a0 a1 a2 a3 a4:TypeId × Nat} (h:ZaK u=[a0,a1,a2,a3,a4]):∃ f0 f1 f2 f3 f4:Field,u=some (.struct #[f0,f1,f2,f3,f4])/\(f0.type=a0.1/\f0.offset=a0.2)/\(f1.type=a1.1/\f1.offset=a1.2)/\(f2.type=a2.1/\f2.offset=a2.2)/\(f3.type=a3.1/\f3.offset=a3.2)/\(f4.type=a4.1/\f4.offset=a4.2):=by
 unfold ZaK at h;split at h
 ·rename_i fs0
  obtain ⟨fs⟩:=fs0
  match fs,h with
  | [f0,f1,f2,f3,f4],h =>
   simp at h;obtain ⟨rfl,rfl,rfl,rfl,rfl⟩:=h;exact ⟨f0,f1,f2,f3,f4,rfl,⟨rfl,rfl⟩,⟨rfl,rfl⟩,⟨rfl,rfl⟩,⟨rfl,rfl⟩,⟨rfl,rfl⟩⟩
  | [],h=>simp at h
  | [_],h=>simp at h
  | [_,_],h=>simp at h
  | [_,_,_],h=>simp at h
  | [_,_,_,_],h=>simp at h
  | _ :: _ :: _ :: _ :: _ :: _ :: _,h=>simp at h
 ·simp at h
theorem Zsi {u:Option TypeDesc} {a0 a1:TypeId × Nat} (h:ZaK u=[a0,a1]):∃ f0 f1:Field,u=some (.struct #[f0,f1])/\(f0.type=a0.1/\f0.offset=a0.2)/\(f1.type=a1.1/\f1.offset=a1.2):=by
 unfold ZaK at h;split at h
 ·rename_i fs0
  obtain ⟨fs⟩:=fs0
  match fs,h with
  | [f0,f1],h =>
   simp at h;obtain ⟨rfl,rfl⟩:=h;exact ⟨f0,f1,rfl,⟨rfl,rfl⟩,⟨rfl,rfl⟩⟩
  | [],h=>simp at h
  | [_],h=>simp at h
  | _ :: _ :: _ :: _,h=>simp at h
 ·simp at h
theorem ZnV:ZaK (Tryz.prog.underlying 46)=[(9,0),(3,1),(3,2),(3,3),(9,4)]:=by kernel_rfl
theorem Zon:ZaK (Tryz.prog.underlying 25)=[(22,0),(23,1)]:=by kernel_rfl
theorem len5 {α:Type} {l:List α} (h:l.length=5):∃ a b c d e,l=[a,b,c,d,e]:=by
 match l,h with
 | [a,b,c,d,e],_=>exact ⟨a,b,c,d,e,rfl⟩
theorem len2 {α:Type} {l:List α} (h:l.length=2):∃ a b,l=[a,b]:=by
 match l,h with
 | [a,b],_=>exact ⟨a,b,rfl⟩
theorem Zlp {H:Type} {enc:TypeId × Value->H} {W:World} {a:Option Addr} {len cap fuel:Nat} {d:DataW H} {ps:List MemPlace}
 (hf:DataW.trod enc Tryz.prog W 0 (fun _=>true) true fuel 23 [.slice a len cap]=some (d,ps))
 (hsz:∀ n ∈ d.weights Tryz.prog 23,n<=reachBytes) :
 ∃ l:List Ar.F,len=l.length/\FlSl W a l/\l.length*56<=140737488355328/\(∀ f ∈ l,f.name.size<=140737488355328/\f.blk.size<=140737488355328):=by
 obtain ⟨f0,f1,f2,f3,f4,hs,⟨t0,o0⟩,⟨t1,o1⟩,⟨t2,o2⟩,⟨t3,o3⟩,⟨t4,o4⟩⟩:=Zsh ZnV;have lt:∀ x ∈ ps,x.block<W.heap.size:=DataW.trod_lt fuel _ _ _ hf;rcases open_slice Tryz.underlying23 hf with ⟨hcs,_⟩ | ⟨x,len',cap',m,n,D,Pl,hcs,_,hl,hm,hmm,hx,each⟩
 ·simp at hcs;obtain ⟨rfl,rfl,rfl⟩:=hcs;exact ⟨[],rfl,.inl rfl,by simp,by simp⟩
 ·simp at hcs;obtain ⟨rfl,rfl,rfl⟩:=hcs;simp only [if_true] at hmm;subst hmm;have hx1:=congrArg Prod.fst hx;have hx2:=congrArg Prod.snd hx;dsimp only at hx1 hx2;rw [hx1] at hsz;rw [hx2] at lt;clear hx hx1 hx2 hf
  have key:∀ i,i<m->∃ q:Ar.F,W.cell? (x.add (i*5))=some (.string q.name)/\W.cell? (x.add (i*5+1))=some (.int .i64 q.dict)/\W.cell? (x.add (i*5+2))=some (.int .i64 q.size)/\W.cell? (x.add (i*5+3))=some (.int .i64 q.sum)/\W.cell? (x.add (i*5+4))=some (.string q.blk)/\D i=.agg [.lit (.string q.name.data.toList),.lit (.int .i64 q.dict),.lit (.int .i64 q.size),.lit (.int .i64 q.sum),.lit (.string q.blk.data.toList)]:=by
   intro i hi;obtain ⟨cs',h1,h2⟩:=each i hi;rw [Zjq] at h1;obtain ⟨_,hlen,hcell⟩:=World.cells?_some h1;obtain ⟨xs,k,hk,hxy,_,hxl,hfs⟩:=DataW.trod_struct hs h2;obtain ⟨y0,y1,y2,y3,y4,rfl⟩:=len5 (show xs.length=5 from hxl);obtain ⟨v0,v1,v2,v3,v4,rfl⟩:=len5 hlen;have g0:=hfs 0 f0 rfl;have g1:=hfs 1 f1 rfl;have g2:=hfs 2 f2 rfl;have g3:=hfs 3 f3 rfl;have g4:=hfs 4 f4 rfl;simp [t0,o0,t1,o1,t2,o2,t3,o3,t4,o4,Zrf,Zrv] at g0 g1 g2 g3 g4;have e0:=hcell 0 (by omega);have e1:=hcell 1 (by omega);have e2:=hcell 2 (by omega);have e3:=hcell 3 (by omega);have e4:=hcell 4 (by omega);rw [add_add] at e0 e1 e2 e3 e4;obtain ⟨s,hs0,hy0,_⟩:=DataW.trod_string Tryz.underlying9 g0;obtain ⟨p,hp0,hy1,_⟩:=DataW.trod_int Tryz.underlying3 g1;obtain ⟨r,hr0,hy2,_⟩:=DataW.trod_int Tryz.underlying3 g2;obtain ⟨u,hu0,hy3,_⟩:=DataW.trod_int Tryz.underlying3 g3;obtain ⟨z,hz0,hy4,_⟩:=DataW.trod_string Tryz.underlying9 g4;simp only [List.cons.injEq,and_true] at hs0 hp0 hr0 hu0 hz0;subst hs0 hp0 hr0 hu0 hz0 hy0 hy1 hy2 hy3 hy4;simp only [Prod.mk.injEq] at hxy;exact ⟨⟨s,p,r,u,z⟩,by simpa using e0,by simpa using e1,by simpa using e2,by simpa using e3,by simpa using e4,by simpa using hxy.1⟩
  have:Inhabited Ar.F:=⟨Ar.fz⟩
  obtain ⟨q,hq⟩:=choose_lt key;have hlen:((List.range len).map q).length=len:=by simp
  refine ⟨(List.range len).map q,hlen.symm,?_,?_,?_⟩
  ·by_cases h0:len=0
   ·left;simp [h0]
   ·right
    obtain ⟨b,off,sp⟩:=x;have hc0:=(hq 0 (by omega)).1;have hsp:sp=none:=by simpa [Addr.add] using World.cell?_spot hc0
    subst hsp
    have hb:b<W.heap.size:=by
     rw [Zjq,show m*5=(m*5 - 1)+1 by omega] at lt;exact Zrn lt
    refine ⟨b,off,rfl,hb,fun i hi=>?_⟩;rw [hlen] at hi;obtain ⟨q0,q1,q2,q3,q4,_⟩:=hq i (by omega);have e:Ar.fa ((List.range len).map q) i=q i:=by simp [Ar.fa,hi]
    rw [e];refine ⟨?_,?_,?_,?_,?_⟩
    ·rw [<-q0,add_plain]
    ·rw [<-q1,add_plain,Nat.add_assoc]
    ·rw [<-q2,add_plain,Nat.add_assoc]
    ·rw [<-q3,add_plain,Nat.add_assoc]
    ·rw [<-q4,add_plain,Nat.add_assoc]
  ·rw [hlen];have:=hsz ((((List.range len).map D).length+((List.range (m - len)).map fun j=>D (len+j)).length)*Tryz.prog.bytesOf 46) (by rw [DataW.weights,Tryz.underlying23];exact List.mem_cons_self ..);rw [ZpH] at this;simp [reachBytes] at this;omega
  ·intro t ht;obtain ⟨i,hi,rfl⟩:=List.mem_map.1 ht;have hi':=List.mem_range.1 hi;have hd:=(hq i (by omega)).2.2.2.2.2
   have hw1:(q i).name.data.toList.length ∈ (D i).weights Tryz.prog 46:=by
    rw [hd,DataW.weights,hs];simp only [List.map_cons,List.map_nil];rw [DataW.weightsEach,List.mem_append]
    left
    rw [DataW.weights];exact List.mem_singleton.2 rfl
   have hw2:(q i).blk.data.toList.length ∈ (D i).weights Tryz.prog 46:=by
    rw [hd,DataW.weights,hs];simp only [List.map_cons,List.map_nil];rw [DataW.weightsEach,List.mem_append]
    right
    rw [DataW.weightsEach,List.mem_append]
    right
    rw [DataW.weightsEach,List.mem_append]
    right
    rw [DataW.weightsEach,List.mem_append]
    right
    rw [DataW.weightsEach,List.mem_append]
    left
    rw [DataW.weights];exact List.mem_singleton.2 rfl
   have k1:=hsz _ (by rw [DataW.weights,Tryz.underlying23];exact List.mem_cons_of_mem _ (List.mem_append.2 (.inl (Zcj hi' hw1))));have k2:=hsz _ (by rw [DataW.weights,Tryz.underlying23];exact List.mem_cons_of_mem _ (List.mem_append.2 (.inl (Zcj hi' hw2))));have j1:(q i).name.data.toList.length=(q i).name.size:=by simp
   have j2:(q i).blk.data.toList.length=(q i).blk.size:=by simp
   rw [j1] at k1;rw [j2] at k2;simp [reachBytes] at k1 k2;omega
theorem ZjR {H:Type} {enc:TypeId × Value->H} {P:Program} {W:World} {fuel:Nat} {t e:TypeId} {v:Value} {x:DataW H × List MemPlace} (hu:P.underlying t=some (.slice e)) (h:DataW.trod enc P W 0 (fun _=>true) true fuel t [v]=some x):∃ a len cap,v=.slice a len cap:=by
 rcases DataW.trod_slice hu h with ⟨h1,_⟩ | ⟨a,len,cap,_,_,_,_,h1,_⟩
 ·simp at h1;exact ⟨_,_,_,h1⟩
 ·simp at h1;exact ⟨_,_,_,h1⟩
theorem Zof {H:Type} {enc:TypeId × Value->H} {W:World} {v:Value} {d:DataW H} {ps:List MemPlace} {r:Reach} {b0:Nat}
 (hv:Value.okWide Tryz.prog W r b0 25 v)
 (h:DataW.Trod enc Tryz.prog W 0 (fun _=>true) true 25 v d ps)
 (hsz:∀ n ∈ d.weights Tryz.prog 25,n<=reachBytes) :
 ∃ ad cd af cf a,v=av ad cd af cf a/\ArV W ad af a/\SaneA a/\a.files.length*56<=140737488355328:=by
 obtain ⟨f0,f1,hs,⟨t0,o0⟩,⟨t1,o1⟩⟩:=Zsi Zon;obtain ⟨xs0,rfl,_⟩:=okWide_struct hs hv;obtain ⟨xs⟩:=xs0;obtain ⟨fuel,hf⟩:=h;obtain ⟨y0,y1,n,hx,hl,g0,g1⟩:=trod_struct2 hs hf;rw [ZqO] at hl;simp only [Value.cells] at hl g0 g1;obtain ⟨v0,v1,rfl⟩:=len2 hl;simp [t0,o0,t1,o1,Zui,Zuh] at g0 g1;obtain ⟨ad,n1,cd,rfl⟩:=ZjR Tryz.underlying22 g0;obtain ⟨af,n2,cf,rfl⟩:=ZjR Tryz.underlying23 g1;have hd:=congrArg Prod.fst hx;dsimp only at hd
 have hw:∀ n,n ∈ y0.1.weights Tryz.prog 22\/n ∈ y1.1.weights Tryz.prog 23->n<=reachBytes:=by
  intro n hn;refine hsz n ?_;rw [hd,DataW.weights,hs];simp only [List.map_cons,List.map_nil,t0,t1];rw [DataW.weightsEach,List.mem_append,DataW.weightsEach,List.mem_append];rcases hn with hn | hn
  ·exact .inl hn
  ·exact .inr (.inl hn)
 obtain ⟨l1,rfl,S1,N1,M1⟩:=ZkM g0 (fun n hn=>hw n (.inl hn));obtain ⟨l2,rfl,S2,N2,M2⟩:=Zlp g1 (fun n hn=>hw n (.inr hn));refine ⟨ad,cd,af,cf,⟨l1,l2⟩,rfl,⟨S1,S2⟩,Zde N1 (by show l2.length<=_;omega) (fun d hd=>?_) M2,N2⟩;obtain ⟨i,hi,rfl⟩:=List.getElem_of_mem hd;have:=M1 i;simpa [Tr.xa,hi] using this
theorem Zqo:Tryz.prog.cellsOf 54=4:=by kernel_rfl
theorem Zna {u:Option TypeDesc} {a0 a1 a2 a3:TypeId × Nat} (h:ZaK u=[a0,a1,a2,a3]):∃ f0 f1 f2 f3:Field,u=some (.struct #[f0,f1,f2,f3])/\(f0.type=a0.1/\f0.offset=a0.2)/\(f1.type=a1.1/\f1.offset=a1.2)/\(f2.type=a2.1/\f2.offset=a2.2)/\(f3.type=a3.1/\f3.offset=a3.2):=by
 unfold ZaK at h;split at h
 ·rename_i fs0
  obtain ⟨fs⟩:=fs0
  match fs,h with
  | [f0,f1,f2,f3],h =>
   simp at h;obtain ⟨rfl,rfl,rfl,rfl⟩:=h;exact ⟨f0,f1,f2,f3,rfl,⟨rfl,rfl⟩,⟨rfl,rfl⟩,⟨rfl,rfl⟩,⟨rfl,rfl⟩⟩
  | [],h=>simp at h
  | [_],h=>simp at h
  | [_,_],h=>simp at h
  | [_,_,_],h=>simp at h
  | _ :: _ :: _ :: _ :: _ :: _,h=>simp at h
 ·simp at h
theorem ZhM:ZaK (Tryz.prog.underlying 54)=[(3,0),(3,1),(9,2),(9,3)]:=by kernel_rfl
theorem len4 {α:Type} {l:List α} (h:l.length=4):∃ a b c d,l=[a,b,c,d]:=by
 match l,h with
 | [a,b,c,d],_=>exact ⟨a,b,c,d,rfl⟩
theorem ZkQ {H:Type} {enc:TypeId × Value->H} {W:World} {fuel:Nat} {cs:List Value} {x:DataW H × List MemPlace} (h:DataW.trod enc Tryz.prog W 0 (fun _=>true) true fuel 54 cs=some x) :
 ∃ q:Im.Act,cs=[.int .i64 q.kind,.int .i64 q.n,.string q.name,.string q.text]/\x.1=.agg [.lit (.int .i64 q.kind),.lit (.int .i64 q.n),.lit (.string q.name.data.toList),.lit (.string q.text.data.toList)]/\∀ m,m=q.name.size\/m=q.text.size->m ∈ x.1.weights Tryz.prog 54:=by
 obtain ⟨f0,f1,f2,f3,hs,⟨t0,o0⟩,⟨t1,o1⟩,⟨t2,o2⟩,⟨t3,o3⟩⟩:=Zna ZhM;obtain ⟨xs,k,hk,hxy,hlen,hxl,hfs⟩:=DataW.trod_struct hs h;rw [Zqo] at hlen;obtain ⟨y0,y1,y2,y3,rfl⟩:=len4 (show xs.length=4 from hxl);obtain ⟨v0,v1,v2,v3,rfl⟩:=len4 hlen;have g0:=hfs 0 f0 rfl;have g1:=hfs 1 f1 rfl;have g2:=hfs 2 f2 rfl;have g3:=hfs 3 f3 rfl;simp [t0,o0,t1,o1,t2,o2,t3,o3,Zrf,Zrv] at g0 g1 g2 g3;obtain ⟨p,hp0,hy0,_⟩:=DataW.trod_int Tryz.underlying3 g0;obtain ⟨r,hr0,hy1,_⟩:=DataW.trod_int Tryz.underlying3 g1;obtain ⟨s,hs0,hy2,_⟩:=DataW.trod_string Tryz.underlying9 g2;obtain ⟨z,hz0,hy3,_⟩:=DataW.trod_string Tryz.underlying9 g3;simp only [List.cons.injEq,and_true] at hs0 hp0 hr0 hz0;subst hs0 hp0 hr0 hz0 hy0 hy1 hy2 hy3;have hd:=congrArg Prod.fst hxy;simp only [List.map_cons,List.map_nil] at hd;refine ⟨⟨p,r,s,z⟩,rfl,hd,fun m hm=>?_⟩;rw [hd,DataW.weights,hs];simp only [List.map_cons,List.map_nil];rw [DataW.weightsEach,List.mem_append,DataW.weightsEach,List.mem_append,DataW.weightsEach,List.mem_append,DataW.weightsEach,List.mem_append];rcases hm with rfl | rfl
 ·refine .inr (.inr (.inl ?_));rw [DataW.weights];exact List.mem_singleton.2 (by simp)
 ·refine .inr (.inr (.inr (.inl ?_)));rw [DataW.weights];exact List.mem_singleton.2 (by simp)
theorem Zjp {n:Nat} (h:n<=reachBytes):n<=140737488355328:=by simp [reachBytes] at h;omega
theorem Zjg {H:Type} {enc:TypeId × Value->H} {W:World} {v:Value} {d:DataW H} {ps:List MemPlace} {r:Reach} {b0:Nat}
 (hv:Value.okWide Tryz.prog W r b0 54 v)
 (h:DataW.Trod enc Tryz.prog W 0 (fun _=>true) true 54 v d ps)
 (hsz:∀ n ∈ d.weights Tryz.prog 54,n<=reachBytes) :
 ∃ k n nm tx,v=.agg #[.int .i64 k,.int .i64 n,.string nm,.string tx]/\nm.size<=140737488355328/\tx.size<=140737488355328:=by
 obtain ⟨f0,f1,f2,f3,hs,_⟩:=Zna ZhM;obtain ⟨xs0,rfl,_⟩:=okWide_struct hs hv;obtain ⟨xs⟩:=xs0;obtain ⟨fuel,hf⟩:=h;obtain ⟨q,e1,_,e3⟩:=ZkQ hf;simp only [Value.cells] at e1;exact ⟨q.kind,q.n,q.name,q.text,by rw [e1],Zjp (hsz _ (e3 _ (.inl rfl))),Zjp (hsz _ (e3 _ (.inr rfl)))⟩
namespace Im
end Im
structure Kp (wr:World) (p:Nat) (v:Value) (c:Nat):Prop where
 lt:c<wr.heap.size
 np:c ≠ p
 nv:v.ownBlock ≠ some c
theorem Kp.next {wr w':World} {p c:Nat} {v v':Value} (h:Kp wr p v c) (F:WF p wr w' v v'):Kp w' p v' c/\w'.heap[c]?=wr.heap[c]? :=
 ⟨⟨nT h.lt F.sz,h.np,fun e=>by
  rcases F.at_ c e with h9 | h9
  ·exact h.nv h9
  ·have:=h.lt;omega⟩,F.blk c h.lt h.np h.nv⟩
theorem Bx.blk {w w':World} {b:Nat} {x y:Value} (h:Bx w b x y) (hb:w'.heap[b]?=w.heap[b]?) (hz:w.heap.size<=w'.heap.size):Bx w' b x y :=
 ⟨(cB (w:=w) (a:=⟨b,0,none⟩) hb).trans h.c0,(cB (w:=w) (a:=⟨b,1,none⟩) hb).trans h.c1,(fB (w:=w) (a:=⟨b,0,none⟩) hb).trans h.f0,(fB (w:=w) (a:=⟨b,1,none⟩) hb).trans h.f1,nT h.lt hz⟩
theorem FB.blk {w w':World} {b:Nat} {f:Nat->Value} (h:FB w b f) (hb:w'.heap[b]?=w.heap[b]?):FB w' b f :=
 ⟨fun i hi=>(cB (w:=w) (a:=⟨b,i,none⟩) hb).trans (h.c i hi),fun i hi=>(fB (w:=w) (a:=⟨b,i,none⟩) hb).trans (h.z i hi)⟩
structure WS (w wr:World) (B p c:Nat) (v0 v:Value) (l:List UInt8) (x y:Value):Prop where
 f:WF p w wr v0 v
 t:Wtr B p wr v l 0
 b:Below B w wr
 x:Bx wr c x y
 k:Kp wr p v c
theorem WS.call {w wr w':World} {B p c:Nat} {v0 v:Value} {l l':List UInt8} {x y:Value} {e:Ending} (h:WS w wr B p c v0 v l x y) (s:ZcF B p wr v l' 0 e w'):e=.returned (.tuple #[])/\∃ v',WS w w' B p c v0 v' l' x y/\WF p wr w' v v':=by
 obtain ⟨he,G,v',T,F⟩:=s;obtain ⟨K,hb⟩:=h.k.next F;exact ⟨he,v',⟨h.f.trans F,T,h.b.trans G,h.x.blk hb F.sz,K⟩,F⟩
theorem WS.below {w wr w':World} {B p c:Nat} {v0 v:Value} {l:List UInt8} {x y:Value} (h:WS w wr B p c v0 v l x y) (G:Below wr.heap.size wr w'):WS w w' B p c v0 v l x y :=
 ⟨h.f.trans (WF.of G),h.t.below G,h.b.trans (G.mono (Nat.le_of_lt (Nat.lt_of_le_of_lt h.t.hp h.t.lt))),h.x.next G,⟨nT h.k.lt G.size,h.k.np,h.k.nv⟩⟩
namespace Cd
theorem ZnM {f:Nat->Int} {s:ByteArray} (h:(wrt f s).2=0):(wrt f s).1.size<=5000:=by
 unfold wrt at h |-
 by_cases hc:chk f ≠ 0
 ·rw [if_pos hc] at h;exact absurd h hc
 ·rw [if_neg hc] at h |-
  by_cases hs:1024<s.size
  ·rw [if_pos hs] at h;simp at h
  ·rw [if_neg hs] at h |-
   cases hw:wrK f s s.size with
   | none=>rw [hw] at h;simp at h
   | some bs =>
    simp only;have:=Zdw (Zd (by simpa using hc)).1 _ _ hw;rw [ZeP];omega
theorem ZqE {f:Nat->Int} {b:ByteArray} {n:Int} (h:(rd f b n).2=0):b.size<=5000:=by
 have h1:=(ZrC h).1;have h2:=ZnM (f:=f) (s:=(rd f b n).1) (by rw [h1]);rw [h1] at h2;exact h2
end Cd
namespace Bk
theorem ZnH {s:ByteArray} (h:(dec s).2=0):s.size<=6000:=by
 unfold dec at h;by_cases h8:s.size<8
 ·omega
 ·rw [if_neg h8] at h
  cases hq:Nm.Zk (s.extract 8 s.size).data.toList with
  | none=>rw [hq] at h;simp at h
  | some x =>
   obtain ⟨n,k⟩:=x;rw [hq] at h;simp only at h;by_cases h0:(Cd.rd (pt (s.extract 0 8)) ((s.extract 8 s.size).extract k (s.extract 8 s.size).size) (n:Nat)).2=0
   ·have:=Cd.ZqE h0;have hk:=Nm.Zah hq;simp only [Zn] at this;omega
   ·rw [if_neg h0] at h;simp at h
theorem ZnC {dict b:ByteArray} (h:(unp dict b).2=0):b.size<=7000:=by
 have hx:(b.extract 1 b.size).size=b.size - 1:=by rw [Zn];omega
 unfold unp at h;by_cases hd:256<dict.size
 ·rw [if_pos hd] at h;simp at h
 ·rw [if_neg hd] at h;by_cases hb:b.size=0
  ·omega
  ·rw [if_neg hb] at h;by_cases h0:Cd.at8 b 0=0
   ·rw [if_pos h0] at h;unfold whl at h;by_cases h5:512<(b.extract 1 b.size).size
    ·rw [if_pos h5] at h;simp at h
    ·omega
   ·rw [if_neg h0] at h;by_cases h1:Cd.at8 b 0=1
    ·rw [if_pos h1] at h;unfold ply at h;by_cases h5:1024<(b.extract 1 b.size).size
     ·rw [Zdm (by omega) h5] at h;simp at h
     ·omega
    ·rw [if_neg h1] at h;by_cases h2:Cd.at8 b 0=2
     ·rw [if_pos h2] at h;by_cases h3:(dec (b.extract 1 b.size)).2=0
      ·have:=ZnH h3;omega
      ·rw [if_neg h3] at h;exact absurd h h3
     ·rw [if_neg h2] at h;simp at h
end Bk
namespace Im
theorem Ziq {α:Type} (enc:α->B) (M:Nat):∀ l:List α,(∀ x ∈ l,(enc x).length<=M)->(flat enc l).length<=l.length*M
 | [],_=>by simp [flat]
 | x :: l,h=>by
  have h1:=Ziq enc M l (fun y hy=>h y (List.mem_cons_of_mem _ hy));have h2:=h x (List.mem_cons_self ..);simp only [flat,List.flatMap_cons,List.length_append,List.length_cons] at h1 |-
  rw [Nat.succ_mul];omega
theorem ZeF {t:ByteArray} {m:Nat} (h:t.size<=m) (hm:m<=100000):(tb t).length<=5+m:=by
 unfold tb;have:=Nm.Zt t.size (by omega);rw [List.length_append,<-Zj];omega
theorem Zqx {a:Ar.A} (h:Ar.chk a=0) {i:Nat} (hi:i<a.files.length):okF (Ar.fa a.files i)/\(Ar.fa a.files i).name.size<=12/\(Ar.fa a.files i).blk.size<=7000:=by
 obtain ⟨hm,hg⟩:=Ar.Zd.1 h;obtain ⟨m1,m2,m3⟩:=Ar.Zw.1 hm;obtain ⟨k1,_,k3⟩:=Ar.ZbQ (Ar.Zfn hg hi);have hn:=Ar.ZsL k1;simp only [Ar.okf,Ar.has,Bool.and_eq_true,decide_eq_true_iff] at k3;obtain ⟨⟨d0,d1⟩,u0,u1,u2⟩:=k3;have hb:=Bk.ZnC u0;have hz:=Bk.unp_size u0;have hs:=Zgm (Ar.up a.dicts (Ar.fa a.files i)).1 (Ar.up a.dicts (Ar.fa a.files i)).1.size;have hz':(Ar.up a.dicts (Ar.fa a.files i)).1.size<=512:=hz;unfold Ar.sm at u2;refine ⟨⟨by omega,⟨d0,by omega⟩,⟨by omega,by omega⟩,⟨by omega,by omega⟩,by omega⟩,hn,hb⟩
theorem ZhI {a:Ar.A} (h:Ar.chk a=0):OkA a/\(imgB a).length<=200000:=by
 obtain ⟨hm,hg⟩:=Ar.Zd.1 h;obtain ⟨m1,m2,m3⟩:=Ar.Zw.1 hm;have hd:=m3
 have hf:∀ f ∈ a.files,okF f/\f.name.size<=12/\f.blk.size<=7000:=fun f hf=>by
  obtain ⟨i,hi,rfl⟩:=List.getElem_of_mem hf;have:=Zqx h hi
  rwa [show Ar.fa a.files i=a.files[i] by simp [Ar.fa,hi]] at this
 refine ⟨⟨m1,fun d h9=>by have:=hd d h9;omega,m2,fun f h9=>(hf f h9).1⟩,?_⟩;have l1:=Ziq tb 300 a.dicts (fun d h9=>by have:=ZeF (hd d h9) (by omega);omega)
 have l2:=Ziq ZtJ 7100 a.files (fun f h9=>by
  obtain ⟨⟨_,⟨_,q1⟩,⟨_,q2⟩,⟨_,q3⟩,_⟩,h2,h3⟩:=hf f h9;have t1:=ZeF h2 (by omega);have t2:=ZeF h3 (by omega);have n1:=Nm.Zt f.dict.toNat (by omega);have n2:=Nm.Zt f.size.toNat (by omega);have n3:=Nm.Zt f.sum.toNat (by omega);unfold ZtJ;simp only [List.length_append]
  omega)
 have n1:=Nm.Zt a.dicts.length (by omega);have n2:=Nm.Zt a.files.length (by omega);have h4:a.dicts.length*300<=4*300:=Nat.mul_le_mul_right _ m1;have h5:a.files.length*7100<=12*7100:=Nat.mul_le_mul_right _ m2;have h6:mrk.length=5:=rfl;unfold imgB;simp only [List.length_append];omega
end Im
theorem ZbZ (s:ByteArray) (w:World) (h:s.size<=2147483647) :
 Calls Tryz.prog 84 #[.string s] w fun e w'=>e=.returned (.string ⟨(Im.tb s).toArray⟩)/\Below w.heap.size w w':=by
 have h2:(s.size:Int)<=2147483647:=by omega
 have hc:=ZF s.size s.size w (by omega) (by omega) (by omega);rw [Int.toNat_natCast] at hc;have hl:=Nm.Zt s.size (by omega)
 have HT:Hid ((⟨(Im.tb s).toArray⟩:ByteArray)=⟨(Nm.nb s.size).toArray⟩++s):=by
  show _=_;apply Nm.ZG;simp [Im.tb]
 rw [HT.out];clear HT;go_enter Tryz.func84,Tryz.ntmps84
 go_wp2_with fail
 refine hc.mono ?_;rintro e w' ⟨rfl,G⟩;clear hc;generalize hL:Nm.nb s.size=L at *;have HL:Hid (Nm.nb s.size=L):=hL;clear hL;go_wp2_with fail
 go_ret
 exact ⟨by rw [HL.out];rfl,G⟩
theorem ZdG (k n:Int) (nm tx:ByteArray) (w:World) :
 Calls Tryz.prog 40 #[.agg #[.int .i64 k,.int .i64 n,.string nm,.string tx]] w fun e w'=>e=.returned (.int .i64 (Im.actE ⟨k,n,nm,tx⟩))/\Below w.heap.size w w':=by
 have B1:=Za w (.cells #[.int .i64 k,.int .i64 n,.string nm,.string tx] 54 (0,0));have X1:=XB.new w 54 k n nm tx;have CK:=fun w'=>ZJ k 0 2147483647 w'
 have CN:=fun w'=>ZJ n 0 2147483647 w'
 obtain ⟨x0,x1,x2,x3,_⟩:=id X1;by_cases h1:0<=k/\k<=2147483647
 ·simp only [decide_eq_true h1] at CK;by_cases h2:0<=n/\n<=2147483647
  ·simp only [decide_eq_true h2] at CN;by_cases h3:nm.size<=512
   ·have d3:decide ((nm.size:Int) > 512)=false:=dF (by omega);have d3':decide ((512:Int)<(nm.size:Int))=false:=dF (by omega);by_cases h4:tx.size<=512
    ·have d4:decide ((tx.size:Int) > 512)=false:=dF (by omega);have d4':decide ((512:Int)<(tx.size:Int))=false:=dF (by omega);have e:Im.actE ⟨k,n,nm,tx⟩=0:=Im.Zbt.2 ⟨h1,h2,h3,h4⟩;rw [e];clear e;go_enter Tryz.func40,Tryz.ntmps40
     go_wp2_with fail
     refine (CK _).mono ?_;rintro e w1 ⟨rfl,rfl⟩;go_wp2_with fail
     refine (CN _).mono ?_;rintro e w2 ⟨rfl,rfl⟩;go_wp2_with fail
     go_ret
     exact ⟨rfl,B1⟩
    ·have d4:decide ((tx.size:Int) > 512)=true:=zdT (by omega);have d4':decide ((512:Int)<(tx.size:Int))=true:=zdT (by omega);have e:Im.actE ⟨k,n,nm,tx⟩=2:=by unfold Im.actE;rw [if_pos ⟨h1,h2⟩,if_neg (fun h=>h4 h.2)]
     rw [e];clear e;go_enter Tryz.func40,Tryz.ntmps40
     go_wp2_with fail
     refine (CK _).mono ?_;rintro e w1 ⟨rfl,rfl⟩;go_wp2_with fail
     refine (CN _).mono ?_;rintro e w2 ⟨rfl,rfl⟩;go_wp2_with fail
     go_ret
     exact ⟨rfl,B1⟩
   ·have d3:decide ((nm.size:Int) > 512)=true:=zdT (by omega);have d3':decide ((512:Int)<(nm.size:Int))=true:=zdT (by omega);have e:Im.actE ⟨k,n,nm,tx⟩=2:=by unfold Im.actE;rw [if_pos ⟨h1,h2⟩,if_neg (fun h=>h3 h.1)]
    rw [e];clear e;go_enter Tryz.func40,Tryz.ntmps40
    go_wp2_with fail
    refine (CK _).mono ?_;rintro e w1 ⟨rfl,rfl⟩;go_wp2_with fail
    refine (CN _).mono ?_;rintro e w2 ⟨rfl,rfl⟩;go_wp2_with fail
    go_ret
    exact ⟨rfl,B1⟩
  ·simp only [decide_eq_false h2] at CN;have e:Im.actE ⟨k,n,nm,tx⟩=3:=by unfold Im.actE;rw [if_neg (fun h=>h2 h.2)]
   rw [e];clear e;go_enter Tryz.func40,Tryz.ntmps40
   go_wp2_with fail
   refine (CK _).mono ?_;rintro e w1 ⟨rfl,rfl⟩;go_wp2_with fail
   refine (CN _).mono ?_;rintro e w2 ⟨rfl,rfl⟩;go_wp2_with fail
   go_ret
   exact ⟨rfl,B1⟩
 ·simp only [decide_eq_false h1] at CK;have e:Im.actE ⟨k,n,nm,tx⟩=3:=by unfold Im.actE;rw [if_neg (fun h=>h1 h.1)]
  rw [e];clear e;go_enter Tryz.func40,Tryz.ntmps40
  go_wp2_with fail
  refine (CK _).mono ?_;rintro e w1 ⟨rfl,rfl⟩;go_wp2_with fail
  go_ret
  exact ⟨rfl,B1⟩
theorem ZlM (s:ByteArray) (w:World) (h:s.size<=2147483647) :
 Calls Tryz.prog 82 #[.string s] w fun e w'=>e=.returned (.string ⟨(Im.tb s).toArray⟩)/\Below w.heap.size w w':=by
 have h2:(s.size:Int)<=2147483647:=by omega
 have hc:=ZF s.size s.size w (by omega) (by omega) (by omega);rw [Int.toNat_natCast] at hc;have hl:=Nm.Zt s.size (by omega)
 have HT:Hid ((⟨(Im.tb s).toArray⟩:ByteArray)=⟨(Nm.nb s.size).toArray⟩++s):=by
  show _=_;apply Nm.ZG;simp [Im.tb]
 rw [HT.out];clear HT;go_enter Tryz.func82,Tryz.ntmps82
 go_wp2_with fail
 refine hc.mono ?_;rintro e w' ⟨rfl,G⟩;clear hc;generalize hL:Nm.nb s.size=L at *;have HL:Hid (Nm.nb s.size=L):=hL;clear hL;go_wp2_with fail
 go_ret
 exact ⟨by rw [HL.out];rfl,G⟩
theorem ZdM (a b:List UInt8):(⟨a.toArray⟩:ByteArray)++⟨b.toArray⟩=⟨(a++b).toArray⟩:=by
 apply Nm.ZG;simp
theorem Zdr (a:List UInt8):(⟨a.toArray⟩:ByteArray).size=a.length:=by rw [Im.Zj]
theorem ZgV (k n:Int) (nm tx:ByteArray) (w:World) (h:Im.actE ⟨k,n,nm,tx⟩=0) :
 Calls Tryz.prog 41 #[.agg #[.int .i64 k,.int .i64 n,.string nm,.string tx]] w fun e w'=>e=.returned (.string ⟨(Im.actB ⟨k,n,nm,tx⟩).toArray⟩)/\Below w.heap.size w w':=by
 obtain ⟨⟨k0,k1⟩,⟨n0,n1⟩,h3,h4⟩:=Im.Zbt.1 h;have hI:=Im.ZcK (Im.Zbt.1 h);simp only at k0 k1 n0 n1 h3 h4;have C1:=fun w=>ZF k.toNat k w k0 (by omega) k1
 have C2:=fun w=>ZF n.toNat n w n0 (by omega) n1
 have C3:=fun w=>ZbZ nm w (by omega)
 have C4:=fun w=>ZbZ tx w (by omega)
 have HI:Hid ((⟨(Nm.nb k.toNat).toArray⟩:ByteArray)++⟨(Nm.nb n.toNat).toArray⟩++⟨(Im.tb nm).toArray⟩++⟨(Im.tb tx).toArray⟩=⟨(Im.Zbl ⟨k,n,nm,tx⟩).toArray⟩):=by
  show _=_;rw [ZdM,ZdM,ZdM];unfold Im.Zbl;simp only [List.append_assoc]
 have C5:Hid (∀ w,Calls Tryz.prog 82 #[.string ⟨(Im.Zbl ⟨k,n,nm,tx⟩).toArray⟩] w fun e w'=>e=.returned (.string ⟨(Im.actB ⟨k,n,nm,tx⟩).toArray⟩)/\Below w.heap.size w w'):=fun w=>by
  have h9:=ZlM ⟨(Im.Zbl ⟨k,n,nm,tx⟩).toArray⟩ w (by rw [Zdr];omega);rw [show Im.tb ⟨(Im.Zbl ⟨k,n,nm,tx⟩).toArray⟩=Im.actB ⟨k,n,nm,tx⟩ by unfold Im.tb Im.actB;rw [Zdr]] at h9;exact h9
 rw [<-HI.out] at C5;have s1:(⟨(Nm.nb k.toNat).toArray⟩:ByteArray).size<=5:=by rw [Zdr];exact Nm.Zt _ (by omega)
 have s2:(⟨(Nm.nb n.toNat).toArray⟩:ByteArray).size<=5:=by rw [Zdr];exact Nm.Zt _ (by omega)
 have s3:(⟨(Im.tb nm).toArray⟩:ByteArray).size<=600:=by rw [Zdr];have:=Im.ZeF h3 (by omega);omega
 have s4:(⟨(Im.tb tx).toArray⟩:ByteArray).size<=600:=by rw [Zdr];have:=Im.ZeF h4 (by omega);omega
 generalize (⟨(Im.actB ⟨k,n,nm,tx⟩).toArray⟩:ByteArray)=R at *;generalize (⟨(Nm.nb k.toNat).toArray⟩:ByteArray)=t1 at *;generalize (⟨(Nm.nb n.toNat).toArray⟩:ByteArray)=t2 at *;generalize (⟨(Im.tb nm).toArray⟩:ByteArray)=t3 at *;generalize (⟨(Im.tb tx).toArray⟩:ByteArray)=t4 at *;clear h hI HI;have B1:=Za w (.cells #[.int .i64 k,.int .i64 n,.string nm,.string tx] 54 (0,0));have X1:=XB.new w 54 k n nm tx;have hbF:=X1.lt;have b1:¬ 9223372036854775807<t1.size+t2.size:=by omega
 have b2:¬ 9223372036854775807<t1.size+t2.size+t3.size:=by omega
 have b3:¬ 9223372036854775807<t1.size+t2.size+t3.size+t4.size:=by omega
 go_enter Tryz.func41,Tryz.ntmps41
 go_wp2_with fail
 generalize (w.alloc (.cells #[.int .i64 k,.int .i64 n,.string nm,.string tx] 54 (0,0)))=z0 at *
 have HSS:Hid (∀ w',Below z0.heap.size z0 w'->(fun w':World=>w'.cell? ⟨w.heap.size,0,none⟩=some (.int .i64 k)/\w'.cell? ⟨w.heap.size,1,none⟩=some (.int .i64 n)/\w'.cell? ⟨w.heap.size,2,none⟩=some (.string nm)/\w'.cell? ⟨w.heap.size,3,none⟩=some (.string tx)) w'):=fun w' h9=>⟨(X1.next h9).c0,(X1.next h9).c1,(X1.next h9).c2,(X1.next h9).c3⟩
 clear X1;have G0:=(Below.refl z0.heap.size z0).drew;refine wp_region_held_drew (S:=fun w'=>w'.cell? ⟨w.heap.size,0,none⟩=some (.int .i64 k)/\w'.cell? ⟨w.heap.size,1,none⟩=some (.int .i64 n)/\w'.cell? ⟨w.heap.size,2,none⟩=some (.string nm)/\w'.cell? ⟨w.heap.size,3,none⟩=some (.string tx)) (by kernel_rfl) (HSS.out _ G0) (fun hS=>?_);refine wpAnyH_take (i:=0) (fuel:=16) (v:=.pointer (some ⟨w.heap.size,0,none⟩)) rfl (by kernel_rfl) (by kernel_rfl) (by kernel_rfl) (fun _ _ _ h=>h) (Or.inl ⟨by rfl,fun w' h9=>by obtain ⟨k1,k2,k3,k4⟩:=h9;go_simp⟩) hS ?_;refine wpAnyH_take (i:=1) (fuel:=15) (v:=.int .i64 k) rfl (by kernel_rfl) (by kernel_rfl) (by kernel_rfl) (fun _ _ _ h=>h) (Or.inl ⟨by rfl,fun w' h9=>by obtain ⟨k1,k2,k3,k4⟩:=h9;go_simp⟩) hS ?_;refine wpAnyH_take (i:=3) (fuel:=14) (v:=.pointer (some ⟨w.heap.size,1,none⟩)) rfl (by kernel_rfl) (by kernel_rfl) (by kernel_rfl) (fun _ _ _ h=>h) (Or.inl ⟨by rfl,fun w' h9=>by obtain ⟨k1,k2,k3,k4⟩:=h9;go_simp⟩) hS ?_;refine wpAnyH_take (i:=4) (fuel:=13) (v:=.int .i64 n) rfl (by kernel_rfl) (by kernel_rfl) (by kernel_rfl) (fun _ _ _ h=>h) (Or.inl ⟨by rfl,fun w' h9=>by obtain ⟨k1,k2,k3,k4⟩:=h9;go_simp⟩) hS ?_;refine wpAnyH_take (i:=7) (fuel:=12) (v:=.pointer (some ⟨w.heap.size,2,none⟩)) rfl (by kernel_rfl) (by kernel_rfl) (by kernel_rfl) (fun _ _ _ h=>h) (Or.inl ⟨by rfl,fun w' h9=>by obtain ⟨k1,k2,k3,k4⟩:=h9;go_simp⟩) hS ?_;refine wpAnyH_take (i:=8) (fuel:=11) (v:=.string nm) rfl (by kernel_rfl) (by kernel_rfl) (by kernel_rfl) (fun _ _ _ h=>h) (Or.inl ⟨by rfl,fun w' h9=>by obtain ⟨k1,k2,k3,k4⟩:=h9;go_simp⟩) hS ?_;refine wpAnyH_take (i:=11) (fuel:=10) (v:=.pointer (some ⟨w.heap.size,3,none⟩)) rfl (by kernel_rfl) (by kernel_rfl) (by kernel_rfl) (fun _ _ _ h=>h) (Or.inl ⟨by rfl,fun w' h9=>by obtain ⟨k1,k2,k3,k4⟩:=h9;go_simp⟩) hS ?_;refine wpAnyH_take (i:=12) (fuel:=9) (v:=.string tx) rfl (by kernel_rfl) (by kernel_rfl) (by kernel_rfl) (fun _ _ _ h=>h) (Or.inl ⟨by rfl,fun w' h9=>by obtain ⟨k1,k2,k3,k4⟩:=h9;go_simp⟩) hS ?_;refine wpAnyH_ready (rs:=[2]) (fuel:=8) (by kernel_rfl) (by simp) ?_;refine AllReadyH.cons rfl (fun K hK=>?_) AllReadyH.nil;go_simp
 go_at_call 83
 refine (C1 _).mono ?_;rintro e w1 ⟨rfl,H1⟩;have G1:=bch G0 H1 (Nat.le_refl _);refine hK.out _ _ (HSS.out _ G1) (fun hS1=>?_);clear hK H1;refine wpAnyH_ready (rs:=[5]) (fuel:=7) (by kernel_rfl) (by simp) ?_;refine AllReadyH.cons rfl (fun K hK=>?_) AllReadyH.nil;go_simp
 go_at_call 83
 refine (C2 _).mono ?_;rintro e w2 ⟨rfl,H2⟩;have G2:=bch G1 H2 (Nat.le_refl _);refine hK.out _ _ (HSS.out _ G2) (fun hS2=>?_);clear hK H2;refine wpAnyH_take (i:=6) (fuel:=6) (v:=.string (t1++t2)) rfl (by kernel_rfl) (by kernel_rfl) (by kernel_rfl) (fun _ _ _ h=>h) (Or.inl ⟨by rfl,fun w' h9=>by obtain ⟨k1,k2,k3,k4⟩:=h9;go_simp⟩) hS2 ?_;refine wpAnyH_ready (rs:=[9]) (fuel:=5) (by kernel_rfl) (by simp) ?_;refine AllReadyH.cons rfl (fun K hK=>?_) AllReadyH.nil;go_simp
 go_at_call 84
 refine (C3 _).mono ?_;rintro e w3 ⟨rfl,H3⟩;have G3:=bch G2 H3 (Nat.le_refl _);refine hK.out _ _ (HSS.out _ G3) (fun hS3=>?_);clear hK H3;refine wpAnyH_take (i:=10) (fuel:=4) (v:=.string (t1++t2++t3)) rfl (by kernel_rfl) (by kernel_rfl) (by kernel_rfl) (fun _ _ _ h=>h) (Or.inl ⟨by rfl,fun w' h9=>by obtain ⟨k1,k2,k3,k4⟩:=h9;go_simp⟩) hS3 ?_;refine wpAnyH_ready (rs:=[13]) (fuel:=3) (by kernel_rfl) (by simp) ?_;refine AllReadyH.cons rfl (fun K hK=>?_) AllReadyH.nil;go_simp
 go_at_call 84
 refine (C4 _).mono ?_;rintro e w4 ⟨rfl,H4⟩;have G4:=bch G3 H4 (Nat.le_refl _);refine hK.out _ _ (HSS.out _ G4) (fun hS4=>?_);clear hK H4;refine wpAnyH_take (i:=14) (fuel:=2) (v:=.string (t1++t2++t3++t4)) rfl (by kernel_rfl) (by kernel_rfl) (by kernel_rfl) (fun _ _ _ h=>h) (Or.inl ⟨by rfl,fun w' h9=>by obtain ⟨k1,k2,k3,k4⟩:=h9;go_simp⟩) hS4 ?_;refine wpAnyH_ready (rs:=[15]) (fuel:=1) (by kernel_rfl) (by simp) ?_;refine AllReadyH.cons rfl (fun K hK=>?_) AllReadyH.nil;go_simp
 go_at_call 82
 refine (C5.out _).mono ?_;rintro e w5 ⟨rfl,H5⟩;have G5:=bch G4 H5 (Nat.le_refl _);refine hK.out _ _ (HSS.out _ G5) (fun hS5=>?_);clear hK H5;refine wpAnyH_ready (rs:=[16]) (fuel:=0) (by kernel_rfl) (by simp) ?_;refine AllReadyH.cons rfl (fun K hK=>?_) AllReadyH.nil;go_simp
 refine hK.out _ _ hS5 (fun _=>?_);clear hK;refine ⟨by kernel_rfl,?_⟩;have B9:=bch B1 G5 (nl _);clear G0 G1 G2 G3 G4 G5 HSS hS hS1 hS2 hS3 hS4 hS5;go_wp2_with fail
 go_ret
 exact ⟨rfl,B9⟩
structure Ey (w:World) (p:Nat) (s:ByteArray) (b:Bool):Prop where
 c0:w.cell? ⟨p,0,none⟩=some (.string s)
 c1:w.cell? ⟨p,1,none⟩=some (.bool b)
 f0:w.frozen? ⟨p,0,none⟩=false
 f1:w.frozen? ⟨p,1,none⟩=false
theorem Ey.lt {w:World} {p:Nat} {s:ByteArray} {b:Bool} (h:Ey w p s b):p<w.heap.size:=cL w _ h.c0
theorem Ey.lo {w w':World} {p lo:Nat} {s:ByteArray} {b:Bool} (h:Ey w p s b) (G:Below lo w w') (hp:p<lo):Ey w' p s b:=⟨(G.cell (p:=⟨p,0,none⟩) hp).trans h.c0,(G.cell (p:=⟨p,1,none⟩) hp).trans h.c1,(G.frozen (p:=⟨p,0,none⟩) hp).trans h.f0,(G.frozen (p:=⟨p,1,none⟩) hp).trans h.f1⟩
theorem Ey.below {w w':World} {p:Nat} {s:ByteArray} {b:Bool} (h:Ey w p s b) (G:Below w.heap.size w w'):Ey w' p s b:=h.lo G h.lt
theorem Ey.set0 {w:World} {p:Nat} {s:ByteArray} {b:Bool} (h:Ey w p s b) (t:ByteArray):Ey (w.setCell ⟨p,0,none⟩ (.string t)) p t b :=
 ⟨World.cell?_setCell_same _ _ _ h.c0,(World.cell?_setCell_other _ _ _ _ (by intro e;have:=congrArg Addr.off e;simp at this)).trans h.c1,by rw [World.frozen?_setCell];exact h.f0,by rw [World.frozen?_setCell];exact h.f1⟩
theorem Ey.set1 {w:World} {p:Nat} {s:ByteArray} {b:Bool} (h:Ey w p s b) (c:Bool):Ey (w.setCell ⟨p,1,none⟩ (.bool c)) p s c :=
 ⟨(World.cell?_setCell_other _ _ _ _ (by intro e;have:=congrArg Addr.off e;simp at this)).trans h.c0,World.cell?_setCell_same _ _ _ h.c1,by rw [World.frozen?_setCell];exact h.f0,by rw [World.frozen?_setCell];exact h.f1⟩
theorem Ey.low {w:World} {p q:Nat} {s:ByteArray} {b:Bool} (h:Ey w p s b) (hne:p ≠ q) (o:Nat) (v:Value):Ey (w.setCell ⟨q,o,none⟩ v) p s b :=
 ⟨(World.cell?_setCell_other _ _ _ _ (by intro e;have:=congrArg Addr.block e;simp at this;omega)).trans h.c0,(World.cell?_setCell_other _ _ _ _ (by intro e;have:=congrArg Addr.block e;simp at this;omega)).trans h.c1,by rw [World.frozen?_setCell];exact h.f0,by rw [World.frozen?_setCell];exact h.f1⟩
theorem Ey.on {w w':World} {p q:Nat} {s:ByteArray} {b:Bool} (h:Ey w p s b) (g:On q w w') (hne:p ≠ q):Ey w' p s b:=by
 have hb:=g.block p h.lt (by simp;omega);exact ⟨(World.cell?_of_block (w:=w) (a:=⟨p,0,none⟩) hb).trans h.c0,(World.cell?_of_block (w:=w) (a:=⟨p,1,none⟩) hb).trans h.c1,(World.frozen?_of_block (w:=w) (a:=⟨p,0,none⟩) hb).trans h.f0,(World.frozen?_of_block (w:=w) (a:=⟨p,1,none⟩) hb).trans h.f1⟩
theorem Ey.new (w:World) (T:TypeId) (s:ByteArray) (b:Bool):Ey (w.alloc (.cells #[.string s,.bool b] T (0,0))) w.heap.size s b :=
 ⟨cN _ _ _ 0,cN _ _ _ 1,fN _ _ _ _ rfl,fN _ _ _ _ rfl⟩
theorem On.put {p:Nat} {w w':World} (h:On p w w') (o:Nat) (v:Value):On p w (w'.setCell ⟨p,o,none⟩ v):=h.trans (Zb w' ⟨p,o,none⟩ v)
theorem Zdf (s:ByteArray) (b:Bool) (p:Nat) (w:World) (h:Ey w p s b) (hs:s.size<=281474976710656) :
 Calls Tryz.prog 77 #[.pointer (some ⟨p,0,none⟩)] w fun e w'=>e=.returned (.int .i64 ((Im.eNum (s,b)).1:Nat))/\On p w w'/\Ey w' p (Im.eNum (s,b)).2.1 (Im.eNum (s,b)).2.2:=by
 have C1:=Zcq s w hs;have c0:=h.c0;have HB:Hid (∀ w',Below w.heap.size w w'->Ey w' p s b):=fun w' h9=>h.below h9
 unfold Im.eNum;dsimp only;generalize Nm.num s=n at *;generalize Nm.rest s=r at *;generalize Nm.is s=i at *;clear h hs
 cases b <;> cases i
 all_goals
  simp only [Bool.not_true,Bool.not_false,Bool.or_true,Bool.or_false];go_enter Tryz.func77,Tryz.ntmps77
  go_wp2_with fail
  refine C1.mono ?_;rintro e w1 ⟨rfl,G⟩;have E1:=HB.out _ G;have c1:=E1.c1;have f1:=E1.f1
 ·have E2:=E1.set1 true;have k0:=E2.c0;have z0:=E2.f0;go_wp2_with fail
  go_ret
  exact ⟨rfl,((On.of G).put _ _).put _ _,E2.set0 _⟩
 ·have E2:=E1.set1 false;have k0:=E2.c0;have z0:=E2.f0;go_wp2_with fail
  go_ret
  exact ⟨rfl,((On.of G).put _ _).put _ _,E2.set0 _⟩
 ·have E2:=E1.set1 true;have k0:=E2.c0;have z0:=E2.f0;go_wp2_with fail
  go_ret
  exact ⟨rfl,((On.of G).put _ _).put _ _,E2.set0 _⟩
 ·have E2:=E1.set1 true;have k0:=E2.c0;have z0:=E2.f0;go_wp2_with fail
  go_ret
  exact ⟨rfl,((On.of G).put _ _).put _ _,E2.set0 _⟩
namespace Im
theorem ZfF (s:ByteArray) (b:Bool):(eNum (s,b)).1<=2147483647/\(eNum (s,b)).2.1.size<=s.size:=by
 cases h:rNum s with
 | none=>rw [ZcO h];exact ⟨by omega,by show 0<=_;omega⟩
 | some x =>
  obtain ⟨n,r⟩:=x;rw [Zaj h];exact ⟨((Zax s n r).1 h).1,ZlP Zax h⟩
theorem Zmr (s:ByteArray) (b:Bool):(eTxt (s,b)).1.size<=s.size/\(eTxt (s,b)).2.1.size<=s.size:=by
 have h:=(ZfF s b).2;unfold eTxt;split
 ·exact ⟨by show 0<=_;omega,h⟩
 ·exact ⟨by simp;omega,by simp;omega⟩
end Im
theorem Zcs (s:ByteArray) (b:Bool) (p:Nat) (w:World) (h:Ey w p s b) (hs:s.size<=281474976710656) :
 Calls Tryz.prog 78 #[.pointer (some ⟨p,0,none⟩)] w fun e w'=>e=.returned (.string (Im.eTxt (s,b)).1)/\On p w w'/\Ey w' p (Im.eTxt (s,b)).2.1 (Im.eTxt (s,b)).2.2:=by
 have C1:=Zdf s b p w h hs;obtain ⟨l1,l2⟩:=Im.ZfF s b;clear h;by_cases hlt:(Im.eNum (s,b)).2.1.size<(Im.eNum (s,b)).1
 ·have e1:Im.eTxt (s,b)=(⟨#[]⟩,(Im.eNum (s,b)).2.1,true):=by unfold Im.eTxt;rw [if_pos hlt]
  rw [e1];clear e1;dsimp only;generalize (Im.eNum (s,b)).1=n at *;generalize (Im.eNum (s,b)).2.1=r at *;generalize (Im.eNum (s,b)).2.2=c at *;have d1:decide ((n:Int) > (r.size:Int))=true:=decide_eq_true (by omega);have d1':decide (r.size<n)=true:=decide_eq_true hlt;have d1'':decide ((r.size:Int)<(n:Int))=true:=decide_eq_true (by omega);go_enter Tryz.func78,Tryz.ntmps78
  go_wp2_with fail
  refine C1.mono ?_;rintro e w1 ⟨rfl,G,E1⟩;have k0:=E1.c0;have k1:=E1.c1;have f1:=E1.f1;go_wp2_with fail
  go_ret
  exact ⟨rfl,G.put _ _,E1.set1 _⟩
 ·have e1:Im.eTxt (s,b)=((Im.eNum (s,b)).2.1.extract 0 (Im.eNum (s,b)).1,(Im.eNum (s,b)).2.1.extract (Im.eNum (s,b)).1 (Im.eNum (s,b)).2.1.size,(Im.eNum (s,b)).2.2):=by unfold Im.eTxt;rw [if_neg hlt]
  rw [e1];clear e1;dsimp only;generalize (Im.eNum (s,b)).1=n at *;generalize (Im.eNum (s,b)).2.1=r at *;generalize (Im.eNum (s,b)).2.2=c at *;have d1:decide ((n:Int) > (r.size:Int))=false:=decide_eq_false (by omega);have d1':decide (r.size<n)=false:=decide_eq_false hlt;have d1'':decide ((r.size:Int)<(n:Int))=false:=decide_eq_false (by omega);have hle:n<=r.size:=by omega
  have hli:(n:Int)<=(r.size:Int):=by omega
  go_enter Tryz.func78,Tryz.ntmps78
  go_wp2_with fail
  refine C1.mono ?_;rintro e w1 ⟨rfl,G,E1⟩;have k0:=E1.c0;have f0:=E1.f0;go_wp2_with fail
  go_ret
  exact ⟨rfl,G.put _ _,E1.set0 _⟩
namespace Im
end Im
theorem On.low {p:Nat} {w w1 w2:World} (h:On p w w1) {lo:Nat} (hl:w.heap.size<=lo) (g:Below lo w1 w2):On p w w2 :=
 ⟨g.os.trans h.os,g.tape.trans h.tape,g.output.trans h.output,Nat.le_trans h.size g.size,fun k hk hne=>(g.block k (by omega)).trans (h.block k hk hne)⟩
theorem Rdr.lo {w1 w2:World} {p lo:Nat} {s:ByteArray} (h:Rdr w1 p s) (g:Below lo w1 w2) (hp:p<lo):Rdr w2 p s :=
 ⟨(g.cell (p:=⟨p,0,none⟩) hp).trans h.c,(g.frozen (p:=⟨p,0,none⟩) hp).trans h.f⟩
theorem CpS.on {w0 wr w':World} {p C lo:Nat} {v1 v2:Value} {n1 n2:Nat} {xs1 xs2:List Value} (h:CpS w0 wr C lo v1 v2 n1 n2 xs1 xs2) (g:On p wr w') (hp:p<lo):CpS w' w' C lo v1 v2 n1 n2 xs1 xs2:=by
 have hC:=h.hC;have hb:=g.block C h.hb (by simp;omega);have e1:v1.ownBlock ≠ some p:=fun e=>by have:=(h.o1.lt p e).1;omega
 have e2:v2.ownBlock ≠ some p:=fun e=>by have:=(h.o2.lt p e).1;omega
 refine ⟨(cB (w:=wr) (a:=⟨C,0,none⟩) hb).trans h.c0,(cB (w:=wr) (a:=⟨C,1,none⟩) hb).trans h.c1,(fB (w:=wr) (a:=⟨C,0,none⟩) hb).trans h.f0,(fB (w:=wr) (a:=⟨C,1,none⟩) hb).trans h.f1,h.o1.kept g (.inr e1),h.o2.kept g (.inr e2),h.ne,h.a1,h.a2,h.hC,nT h.hb g.size,bR _ _⟩
structure RS (w wr:World) (p:Nat) (v1 v2:Value) (n1 n2:Nat) (xs1 xs2:List Value) (r:ByteArray):Prop where
 s:CpS wr wr (w.heap.size+1) (w.heap.size+1) v1 v2 n1 n2 xs1 xs2
 g:On p w wr
 r:Rdr wr p r
 x:Bx wr w.heap.size (.slice none 0 0) (.slice none 0 0)
 hp:p<w.heap.size
theorem RS.on {w wr w':World} {p:Nat} {v1 v2:Value} {n1 n2:Nat} {xs1 xs2:List Value} {r r':ByteArray} (h:RS w wr p v1 v2 n1 n2 xs1 xs2 r) (g:On p wr w') (hr:Rdr w' p r'):RS w w' p v1 v2 n1 n2 xs1 xs2 r':=by
 have hp:=h.hp;have hb:=g.block w.heap.size h.x.lt (by simp;omega);exact ⟨h.s.on g (by omega),h.g.past g,hr,⟨(World.cell?_of_block (w:=wr) (a:=⟨w.heap.size,0,none⟩) hb).trans h.x.c0,(World.cell?_of_block (w:=wr) (a:=⟨w.heap.size,1,none⟩) hb).trans h.x.c1,(World.frozen?_of_block (w:=wr) (a:=⟨w.heap.size,0,none⟩) hb).trans h.x.f0,(World.frozen?_of_block (w:=wr) (a:=⟨w.heap.size,1,none⟩) hb).trans h.x.f1,Nat.lt_of_lt_of_le h.x.lt g.size⟩,hp⟩
theorem RS.next {w wr wq:World} {p:Nat} {v1 v2 u1 u2:Value} {n1 n2 m1 m2:Nat} {xs1 xs2 ys1 ys2:List Value} {r:ByteArray} (h:RS w wr p v1 v2 n1 n2 xs1 xs2 r) (c:CpS wr wq (w.heap.size+1) (w.heap.size+1) u1 u2 m1 m2 ys1 ys2):RS w wq p u1 u2 m1 m2 ys1 ys2 r:=by
 have hp:=h.hp;have G:=c.bel;exact ⟨⟨c.c0,c.c1,c.f0,c.f1,c.o1,c.o2,c.ne,c.a1,c.a2,c.hC,c.hb,Below.refl _ _⟩,h.g.low (by omega) G,h.r.lo G (by omega),⟨(G.cell (p:=⟨w.heap.size,0,none⟩) (by simp)).trans h.x.c0,(G.cell (p:=⟨w.heap.size,1,none⟩) (by simp)).trans h.x.c1,(G.frozen (p:=⟨w.heap.size,0,none⟩) (by simp)).trans h.x.f0,(G.frozen (p:=⟨w.heap.size,1,none⟩) (by simp)).trans h.x.f1,Nat.lt_of_lt_of_le h.x.lt G.size⟩,hp⟩
theorem RS.drew {w wr:World} {p:Nat} {v1 v2:Value} {n1 n2:Nat} {xs1 xs2:List Value} {r:ByteArray} (h:RS w wr p v1 v2 n1 n2 xs1 xs2 r):RS w wr.drew p v1 v2 n1 n2 xs1 xs2 r:=h.next (h.s.below ((bR _ _).drew))
end Go.Proofs.YtbjbjbpgmojcbabGreat
