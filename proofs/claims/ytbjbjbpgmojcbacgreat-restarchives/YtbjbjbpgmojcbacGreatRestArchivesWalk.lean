/- A part of the proof: what it leans on. -/
import Derived.Test.YtbjbjbpgmojcbacGreatR13
import Derived.Test.YtbjbjbpgmojcbacGreatR16
import Derived.Test.YtbjbjbpgmojcbacGreatR17
namespace Go.Proofs.YtbjbjbpgmojcbacGreat
open Go.RowKit
set_option maxRecDepth 8000 in
set_option maxHeartbeats 8000000 in
theorem restArchives_any (ad af:Option Addr) (cd cf:Nat) (a:Ar.A) (name text:ByteArray) (size:Int) (w:World) (h:ArV w ad af a) (hs:SaneA a) (h56:a.files.length*56<=140737488355328) (hn:name.size<=140737488355328) (ht:text.size<=140737488355328) (hM:Mx w) :
 Calls Tryz.prog 4 #[av ad cd af cf a,.string name,.string text,.int .i64 size] w fun e w'=>e=.returned (.bool true)/\Below w.heap.size w w':=by
 have C0:Hid (∀ w',Below w.heap.size w w'->Calls Tryz.prog 11 #[av ad cd af cf a] w' fun e w2=>TwoSaid a w' e w2):=fun w' h9=>ownArchive_any ad af cd cf a w' (h.below h9) hs.nd h56
 have C1:Hid (∀ w',Below w.heap.size w w'->Calls Tryz.prog 12 #[av ad cd af cf a,.string name,.string text,.int .i64 0] w' fun e w2=>ArSaid w' (Ar.putA a name text 0) (Ar.putE a name text 0) e w2):=fun w' h9=>archPut_any ad af cd cf a name text 0 w' (h.below h9) hs hn ht
 have C4:Hid (∀ w',Below w.heap.size w w'->Calls Tryz.prog 15 #[av ad cd af cf a,.string name,.string text,.int .i64 0] w' fun e w2=>ArSaid w' (Ar.putA a name text 0) (Ar.putE a name text 0) e w2):=fun w' h9=>putOf_any ad af cd cf a name text 0 w' (h.below h9) hs hn
 have C2:Hid (∀ w',Below w.heap.size w w'->Calls Tryz.prog 13 #[av ad cd af cf a,.int .i64 size] w' fun e w2=>ArSaid w' (Ar.retA a size) (Ar.retE a size) e w2):=fun w' h9=>archRetrain_any ad af cd cf a size w' (h.below h9) hs (hM.below h9)
 have C5:Hid (∀ w',Below w.heap.size w w'->Calls Tryz.prog 16 #[av ad cd af cf a,.int .i64 size] w' fun e w2=>ArSaid w' (Ar.retA a size) (Ar.retE a size) e w2):=fun w' h9=>retrainOf_any ad af cd cf a size w' (h.below h9) hs
 have C3:Hid (∀ w',Below w.heap.size w w'->Calls Tryz.prog 14 #[av ad cd af cf a] w' fun e w2=>ArSaid w' (Ar.cmpA a) (Ar.chk a) e w2):=fun w' h9=>archCompact_any ad af cd cf a w' (h.below h9) hs
 have C6:Hid (∀ w',Below w.heap.size w w'->Calls Tryz.prog 17 #[av ad cd af cf a] w' fun e w2=>ArSaid w' (Ar.cmpA a) (Ar.chk a) e w2):=fun w' h9=>compactOf_any ad af cd cf a w' (h.below h9) hs
 have C7:Hid (∀ w',Below w.heap.size w w'->Calls Tryz.prog 18 #[] w' fun e w2=>e=.returned (.bool true)/\Below w'.heap.size w' w2):=fun w' h9=>archBegun_any w' (hM.below h9)
 have sP:SaneA (Ar.putA a name text 0):=hs.put hn
 have sR:SaneA (Ar.retA a size):=hs.ret size
 have sK:SaneA (Ar.cmpA a):=hs.cmp
 have HVA:Hid (∀ w',Below w.heap.size w w'->ArV w' ad af a):=fun w' h9=>h.below h9
 have KP:Hid (∀ w' x y p q x' y' p' q',ArV w' x y (Ar.putA a name text 0)->ArV w' x' y' (Ar.putA a name text 0)->Calls Tryz.prog 8 #[av x p y q (Ar.putA a name text 0),av x' p' y' q' (Ar.putA a name text 0)] w' fun e w2=>e=.returned (.bool true)/\Below w'.heap.size w' w2):=fun w' x y p q x' y' p' q' hv hv'=>same_any x y x' y' p q p' q' _ w' hv hv' sP.nd sP.nf
 have KR:Hid (∀ w' x y p q x' y' p' q',ArV w' x y (Ar.retA a size)->ArV w' x' y' (Ar.retA a size)->Calls Tryz.prog 8 #[av x p y q (Ar.retA a size),av x' p' y' q' (Ar.retA a size)] w' fun e w2=>e=.returned (.bool true)/\Below w'.heap.size w' w2):=fun w' x y p q x' y' p' q' hv hv'=>same_any x y x' y' p q p' q' _ w' hv hv' sR.nd sR.nf
 have KK:Hid (∀ w' x y p q x' y' p' q',ArV w' x y (Ar.cmpA a)->ArV w' x' y' (Ar.cmpA a)->Calls Tryz.prog 8 #[av x p y q (Ar.cmpA a),av x' p' y' q' (Ar.cmpA a)] w' fun e w2=>e=.returned (.bool true)/\Below w'.heap.size w' w2):=fun w' x y p q x' y' p' q' hv hv'=>same_any x y x' y' p q p' q' _ w' hv hv' sK.nd sK.nf
 have KA:Hid (∀ w' x y p q x' y' p' q',ArV w' x y (a)->ArV w' x' y' (a)->Calls Tryz.prog 8 #[av x p y q (a),av x' p' y' q' (a)] w' fun e w2=>e=.returned (.bool true)/\Below w'.heap.size w' w2):=fun w' x y p q x' y' p' q' hv hv'=>same_any x y x' y' p q p' q' _ w' hv hv' hs.nd hs.nf
 have OP:Hid (∀ (w:World) (e:Ending) (w':World),ArSaid w (Ar.putA a name text 0) (Ar.putE a name text 0) e w'->∃ x p y q,e=.returned (.tuple #[.agg #[.slice x (Ar.putA a name text 0).dicts.length p,.slice y (Ar.putA a name text 0).files.length q],.int .i64 (Ar.putE a name text 0)])/\ArOwn w.heap.size w' (.slice x (Ar.putA a name text 0).dicts.length p) (.slice y (Ar.putA a name text 0).files.length q) (Ar.putA a name text 0)/\Below w.heap.size w w'):=fun _ _ _ h=>h.own
 have VP:Hid (∀ (w:World) (e:Ending) (w':World),ArSaid w (Ar.putA a name text 0) (Ar.putE a name text 0) e w'->∃ x p y q,e=.returned (.tuple #[.agg #[.slice x (Ar.putA a name text 0).dicts.length p,.slice y (Ar.putA a name text 0).files.length q],.int .i64 (Ar.putE a name text 0)])/\ArV w' x y (Ar.putA a name text 0)/\Below w.heap.size w w'):=fun _ _ _ h=>h.open
 have WP:Hid (∀ (lo:Nat) (w':World) x p y q,ArOwn lo w' (.slice x (Ar.putA a name text 0).dicts.length p) (.slice y (Ar.putA a name text 0).files.length q) (Ar.putA a name text 0)->w'.ownsRow lo 9 1 (.slice x (Ar.putA a name text 0).dicts.length p) (Ar.putA a name text 0).dicts.length ((Ar.putA a name text 0).dicts.map Value.string)/\w'.ownsRow lo 47 5 (.slice y (Ar.putA a name text 0).files.length q) (Ar.putA a name text 0).files.length (fcs (Ar.putA a name text 0).files)):=fun _ _ _ _ _ _ h=>⟨h.o1,h.o2⟩
 have OR:Hid (∀ (w:World) (e:Ending) (w':World),ArSaid w (Ar.retA a size) (Ar.retE a size) e w'->∃ x p y q,e=.returned (.tuple #[.agg #[.slice x (Ar.retA a size).dicts.length p,.slice y (Ar.retA a size).files.length q],.int .i64 (Ar.retE a size)])/\ArOwn w.heap.size w' (.slice x (Ar.retA a size).dicts.length p) (.slice y (Ar.retA a size).files.length q) (Ar.retA a size)/\Below w.heap.size w w'):=fun _ _ _ h=>h.own
 have VR:Hid (∀ (w:World) (e:Ending) (w':World),ArSaid w (Ar.retA a size) (Ar.retE a size) e w'->∃ x p y q,e=.returned (.tuple #[.agg #[.slice x (Ar.retA a size).dicts.length p,.slice y (Ar.retA a size).files.length q],.int .i64 (Ar.retE a size)])/\ArV w' x y (Ar.retA a size)/\Below w.heap.size w w'):=fun _ _ _ h=>h.open
 have WR:Hid (∀ (lo:Nat) (w':World) x p y q,ArOwn lo w' (.slice x (Ar.retA a size).dicts.length p) (.slice y (Ar.retA a size).files.length q) (Ar.retA a size)->w'.ownsRow lo 9 1 (.slice x (Ar.retA a size).dicts.length p) (Ar.retA a size).dicts.length ((Ar.retA a size).dicts.map Value.string)/\w'.ownsRow lo 47 5 (.slice y (Ar.retA a size).files.length q) (Ar.retA a size).files.length (fcs (Ar.retA a size).files)):=fun _ _ _ _ _ _ h=>⟨h.o1,h.o2⟩
 have OK:Hid (∀ (w:World) (e:Ending) (w':World),ArSaid w (Ar.cmpA a) (Ar.chk a) e w'->∃ x p y q,e=.returned (.tuple #[.agg #[.slice x (Ar.cmpA a).dicts.length p,.slice y (Ar.cmpA a).files.length q],.int .i64 (Ar.chk a)])/\ArOwn w.heap.size w' (.slice x (Ar.cmpA a).dicts.length p) (.slice y (Ar.cmpA a).files.length q) (Ar.cmpA a)/\Below w.heap.size w w'):=fun _ _ _ h=>h.own
 have VK:Hid (∀ (w:World) (e:Ending) (w':World),ArSaid w (Ar.cmpA a) (Ar.chk a) e w'->∃ x p y q,e=.returned (.tuple #[.agg #[.slice x (Ar.cmpA a).dicts.length p,.slice y (Ar.cmpA a).files.length q],.int .i64 (Ar.chk a)])/\ArV w' x y (Ar.cmpA a)/\Below w.heap.size w w'):=fun _ _ _ h=>h.open
 have WK:Hid (∀ (lo:Nat) (w':World) x p y q,ArOwn lo w' (.slice x (Ar.cmpA a).dicts.length p) (.slice y (Ar.cmpA a).files.length q) (Ar.cmpA a)->w'.ownsRow lo 9 1 (.slice x (Ar.cmpA a).dicts.length p) (Ar.cmpA a).dicts.length ((Ar.cmpA a).dicts.map Value.string)/\w'.ownsRow lo 47 5 (.slice y (Ar.cmpA a).files.length q) (Ar.cmpA a).files.length (fcs (Ar.cmpA a).files)):=fun _ _ _ _ _ _ h=>⟨h.o1,h.o2⟩
 have OT:Hid (∀ (w:World) (e:Ending) (w':World),TwoSaid a w e w'->∃ x p y q,e=.returned (.agg #[.slice x a.dicts.length p,.slice y a.files.length q])/\ArV w' x y a/\Below w.heap.size w w'):=fun _ _ _ h=>h
 have nP:(Ar.putA a name text 0).dicts.length<=8796093022208/\(Ar.putA a name text 0).files.length<=8796093022208:=⟨sP.nd,sP.nf⟩
 have nR:(Ar.retA a size).dicts.length<=8796093022208/\(Ar.retA a size).files.length<=8796093022208:=⟨sR.nd,sR.nf⟩
 have nK:(Ar.cmpA a).dicts.length<=8796093022208/\(Ar.cmpA a).files.length<=8796093022208:=⟨sK.nd,sK.nf⟩
 clear h hs sP sR sK hM hn ht h56
 unfold av at C0 C1 C2 C3 C4 C5 C6 KP KR KK KA |-
 generalize Ar.putA a name text 0=pA at *
 generalize Ar.putE a name text 0=eP at *
 generalize Ar.retA a size=rA at *
 generalize Ar.retE a size=eR at *
 generalize Ar.cmpA a=kA at *
 generalize Ar.chk a=eK at *
 generalize a.dicts.length=D at *
 generalize a.files.length=N at *
 generalize pA.dicts.length=D1 at *
 generalize pA.files.length=N1 at *
 generalize rA.dicts.length=D2 at *
 generalize rA.files.length=N2 at *
 generalize kA.dicts.length=D3 at *
 generalize kA.files.length=N3 at *
 go_enter Tryz.func4,Tryz.ntmps4
 go_wp2_with fail
 have XA:=Bx.new w (.slice ad D cd) (.slice af N cf)
 have B1:=alloc_below w (.cells #[.slice ad D cd,.slice af N cf] 33 (0,0))
 generalize (w.alloc (.cells #[.slice ad D cd,.slice af N cf] 33 (0,0)))=u0 at *
 refine (C0.out _ B1).mono ?_
 intro e v0 h1
 obtain ⟨xW,pW,yW,qW,rfl,VW,G⟩:=OT.out _ _ _ h1
 have GA:=alloc_below v0 (.cells #[.slice xW D pW,.slice yW N qW] 33 (0,0))
 have XA:=(XA.next G).next GA
 have VW:=VW.below GA
 have XW:=Bx.new v0 (.slice xW D pW) (.slice yW N qW)
 have B1':=bch (bch B1 G (Nat.le_refl _)) GA (Nat.le_refl _)
 have B1:=B1'
 clear B1' h1 G GA
 have x0:=XA.c0
 have x1:=XA.c1
 have hxl:=XA.lt
 generalize hu:(v0.alloc (.cells #[.slice xW D pW,.slice yW N qW] 33 (0,0)))=w2 at *
 go_wp2_with fail
 clear hu x0 x1 hxl
 generalize v0.heap.size=bW at *
 have Z:Below w2.heap.size w2 w2:=Below.refl _ _
 have XA2:=XA
 have XW2:=XW
 have VW2:=VW
 have B2:=B1
 have hzB:=Z.size
 refine (C1.out _ B1).mono ?_
 intro e v1 h1
 obtain ⟨xB,pB,yB,qB,rfl,WB,G⟩:=OP.out _ _ _ h1
 have GA:=alloc_below v1 (.cells #[.slice xB D1 pB,.slice yB N1 qB] 33 (0,0))
 have XA:=(XA.next G).next GA
 have XW:=(XW.next G).next GA
 have VW:=(VW.below G).below GA
 have B1':=bch (bch B1 G (Nat.le_refl _)) GA (Nat.le_refl _)
 have B1:=B1'
 clear B1'
 have Z':=bch (bch Z G (Nat.le_refl _)) GA (Nat.le_refl _)
 have Z:=Z'
 clear Z'
 have WB:=WB.next GA
 have XB:=Bx.new v1 (.slice xB D1 pB) (.slice yB N1 qB)
 have x0:=XA.c0
 have x1:=XA.c1
 have hxl:=XA.lt
 clear h1 G GA
 generalize hu1:(v1.alloc (.cells #[.slice xB D1 pB,.slice yB N1 qB] 33 (0,0)))=u1 at *
 go_wp2_with fail
 clear hu1 x0 x1 hxl
 generalize v1.heap.size=bB at *
 have hzC:=Z.size
 refine (C2.out _ B1).mono ?_
 intro e v2 h1
 obtain ⟨xC,pC,yC,qC,rfl,WC,G⟩:=OR.out _ _ _ h1
 have GA:=alloc_below v2 (.cells #[.slice xC D2 pC,.slice yC N2 qC] 33 (0,0))
 have XA:=(XA.next G).next GA
 have XW:=(XW.next G).next GA
 have XB:=(XB.next G).next GA
 have VW:=(VW.below G).below GA
 have WB:=(WB.next G).next GA
 have B1':=bch (bch B1 G (Nat.le_refl _)) GA (Nat.le_refl _)
 have B1:=B1'
 clear B1'
 have Z':=bch (bch Z G (Nat.le_refl _)) GA (Nat.le_refl _)
 have Z:=Z'
 clear Z'
 have WC:=WC.next GA
 have XC:=Bx.new v2 (.slice xC D2 pC) (.slice yC N2 qC)
 have x0:=XA.c0
 have x1:=XA.c1
 have hxl:=XA.lt
 clear h1 G GA
 generalize hu2:(v2.alloc (.cells #[.slice xC D2 pC,.slice yC N2 qC] 33 (0,0)))=u2 at *
 go_wp2_with fail
 clear hu2 x0 x1 hxl
 generalize v2.heap.size=bC at *
 have hzE:=Z.size
 refine (C3.out _ B1).mono ?_
 intro e v3 h1
 obtain ⟨xE,pE,yE,qE,rfl,WE,G⟩:=OK.out _ _ _ h1
 have GA:=alloc_below v3 (.cells #[.slice xE D3 pE,.slice yE N3 qE] 33 (0,0))
 have XA:=(XA.next G).next GA
 have XW:=(XW.next G).next GA
 have XB:=(XB.next G).next GA
 have XC:=(XC.next G).next GA
 have VW:=(VW.below G).below GA
 have WB:=(WB.next G).next GA
 have WC:=(WC.next G).next GA
 have B1':=bch (bch B1 G (Nat.le_refl _)) GA (Nat.le_refl _)
 have B1:=B1'
 clear B1'
 have Z':=bch (bch Z G (Nat.le_refl _)) GA (Nat.le_refl _)
 have Z:=Z'
 clear Z'
 have WE:=WE.next GA
 have XE:=Bx.new v3 (.slice xE D3 pE) (.slice yE N3 qE)
 have x0:=XA.c0
 have x1:=XA.c1
 have hxl:=XA.lt
 clear h1 G GA
 generalize hu3:(v3.alloc (.cells #[.slice xE D3 pE,.slice yE N3 qE] 33 (0,0)))=u3 at *
 have k0:=XB.c0
 have k1:=XB.c1
 have k2:=XC.c0
 have k3:=XC.c1
 have k4:=XE.c0
 have k5:=XE.c1
 go_wp2_with fail
 clear k0 k1 k2 k3 k4 k5 hu3 x0 x1 hxl
 generalize v3.heap.size=bE at *
 have OB:=WP.out _ _ _ _ _ _ WB
 have OC:=WR.out _ _ _ _ _ _ WC
 have OE:=WK.out _ _ _ _ _ _ WE
 have GA:=alloc_below u3 (.cells #[.slice xB D1 pB,.slice yB N1 qB,.slice xC D2 pC,.slice yC N2 qC,.slice xE D3 pE,.slice yE N3 qE] 33 (0,0))
 have R0:Rs w2 (u3.alloc (.cells #[.slice xB D1 pB,.slice yB N1 qB,.slice xC D2 pC,.slice yC N2 qC,.slice xE D3 pE,.slice yE N3 qE] 33 (0,0))) u3.heap.size (pick3 xB xC xE) (pick3 yB yC yE) (pick3 D1 D2 D3) (pick3 pB pC pE) (pick3 N1 N2 N3) (pick3 qB qC qE):=⟨bch Z GA (Nat.le_refl _),Z.size,all3 ⟨World.cell?_alloc_new _ _ _ 0,World.cell?_alloc_new _ _ _ 1⟩ ⟨World.cell?_alloc_new _ _ _ 2,World.cell?_alloc_new _ _ _ 3⟩ ⟨World.cell?_alloc_new _ _ _ 4,World.cell?_alloc_new _ _ _ 5⟩,all3 ((own_wr OB.1 (Nat.le_refl _) (Nat.le_refl _)).below GA) ((own_wr OC.1 hzC (Nat.le_refl _)).below GA) ((own_wr OE.1 hzE (Nat.le_refl _)).below GA),all3 ((own_wr OB.2 (Nat.le_refl _) (Nat.le_refl _)).below GA) ((own_wr OC.2 hzC (Nat.le_refl _)).below GA) ((own_wr OE.2 hzE (Nat.le_refl _)).below GA)⟩
 have bD:Hid (∀ i,i<3->pick3 D1 D2 D3 i<=8796093022208/\pick3 N1 N2 N3 i<=8796093022208):=all3 nP nR nK
 clear nP nR nK WB WC WE OB OC OE GA XB XC XE XA XW VW Z hzB hzC hzE B1
 generalize (u3.alloc (.cells #[.slice xB D1 pB,.slice yB N1 qB,.slice xC D2 pC,.slice yC N2 qC,.slice xE D3 pE,.slice yE N3 qE] 33 (0,0)))=ur at *
 generalize u3.heap.size=L at *
 generalize pick3 xB xC xE=aD at *
 generalize pick3 yB yC yE=aF at *
 generalize pick3 D1 D2 D3=nD at *
 generalize pick3 pB pC pE=cD at *
 generalize pick3 N1 N2 N3=nF at *
 generalize pick3 qB qC qE=cF at *
 go_loopw [17] (fun i wr=>∃ q:Nat,q<=3/\i=.int .i64 q/\Rs w2 wr L aD aF nD cD nF cF) (fun i _=>3 - (intOf i).toNat)
 case atStart=>exact ⟨0,by omega,rfl,R0⟩
 case round =>
  clear R0
  obtain ⟨q,hq,rfl,R1⟩:=hrel
  by_cases hlt:q<3
  · have d1:decide ((q:Int)<3)=true:=decide_eq_true (by omega)
    have d1':decide (q<3)=true:=decide_eq_true hlt
    have hqi:(q:Int)<3:=by omega
    obtain ⟨bd,bf⟩:=bD.out q hlt
    have HR:Hid (∀ wr,Rs w2 wr L aD aF nD cD nF cF->wr.cell? ⟨L,q*2,none⟩=some (.slice (aD q) (nD q) (cD q))/\wr.cell? ⟨L,q*2+1,none⟩=some (.slice (aF q) (nF q) (cF q))/\Wr wr w2.heap.size L (aD q) (nD q) 1/\Wr wr w2.heap.size L (aF q) (nF q) 5):=fun wr h9=>⟨(h9.c q hlt).1,(h9.c q hlt).2,h9.wd q hlt,h9.wf q hlt⟩
    generalize aD q=x at *
    generalize nD q=n at *
    generalize cD q=c at *
    generalize aF q=y at *
    generalize nF q=m at *
    generalize cF q=c' at *
    go_wp2_with fail
    go_loopw [18] (fun i wr=>∃ k:Nat,k<=n/\i=.int .i64 k/\Rs w2 wr L aD aF nD cD nF cF) (fun i _=>n - (intOf i).toNat)
    case atStart=>exact ⟨0,by omega,rfl,R1⟩
    case round =>
     clear R1
     obtain ⟨k,hk2,rfl,R2⟩:=hrel
     obtain ⟨c0,c1,wd,wf⟩:=HR.out _ R2
     by_cases hk:k<n
     · have d2:decide ((k:Int)<(n:Int))=true:=decide_eq_true (by omega)
       have d2':decide (k<n)=true:=decide_eq_true hk
       have hki:(k:Int)<(n:Int):=by omega
       rcases wd with h0 | ⟨g,rfl,hg1,hg2,hg3⟩
       · omega
       obtain ⟨⟨u,hu⟩,hf⟩:=hg3 k (by omega)
       clear hg3 wf
       go_wp2_with fail
       go_roundw
       case rel=>exact ⟨k+1,by omega,by go_num,R2.set hg1 hg2 k _⟩
       case measure=>simp [intOf];omega
     · obtain rfl:k=n:=by omega
       have d2:decide ((k:Int)<(k:Int))=false:=by simp
       have d2':decide (k<k)=false:=by simp
       clear wd wf
       go_wp2_with fail
       go_loopw [19] (fun i wr=>∃ k:Nat,k<=m/\i=.int .i64 k/\Rs w2 wr L aD aF nD cD nF cF) (fun i _=>m - (intOf i).toNat)
       case atStart=>exact ⟨0,by omega,rfl,R2⟩
       case round =>
        clear R2 c0 c1 d2 d2' hk hk2
        obtain ⟨j,hj2,rfl,R3⟩:=hrel
        obtain ⟨c0,c1,wd,wf⟩:=HR.out _ R3
        by_cases hj:j<m
        · have d2:decide ((j:Int)<(m:Int))=true:=decide_eq_true (by omega)
          have d2':decide (j<m)=true:=decide_eq_true hj
          have hji:(j:Int)<(m:Int):=by omega
          rcases wf with h0 | ⟨g,rfl,hg1,hg2,hg3⟩
          · omega
          obtain ⟨⟨u0,hu0⟩,hf0⟩:=hg3 (j*5) (by omega)
          obtain ⟨⟨u1,hu1⟩,hf1⟩:=hg3 (j*5+1) (by omega)
          obtain ⟨⟨u2,hu2⟩,hf2⟩:=hg3 (j*5+2) (by omega)
          obtain ⟨⟨u3,hu3⟩,hf3⟩:=hg3 (j*5+3) (by omega)
          obtain ⟨⟨u4,hu4⟩,hf4⟩:=hg3 (j*5+4) (by omega)
          clear hg3 wd
          go_wp2_with fail
          go_roundw
          case rel=>exact ⟨j+1,by omega,by go_num,R3.set5 hg1 hg2 (j*5) _ _ _ _ _⟩
          case measure=>simp [intOf];omega
        · obtain rfl:j=m:=by omega
          have d2:decide ((j:Int)<(j:Int))=false:=by simp
          have d2':decide (j<j)=false:=by simp
          clear wd wf
          go_wp2_with fail
          go_roundw
          case rel=>exact ⟨q+1,by omega,by go_num,R3⟩
          case measure=>simp [intOf];omega
  · obtain rfl:q=3:=by omega
    have XA:=XA2.keep R1.bel XA2.lt
    have XW:=XW2.keep R1.bel XW2.lt
    have VW:=VW2.below R1.bel
    have B1:=bch B2 R1.bel (Nat.le_refl _)
    clear R1 XA2 XW2 VW2 B2 bD hq hlt
    have x0:=XA.c0
    have x1:=XA.c1
    have hxl:=XA.lt
    go_wp2_with fail
    clear x0 x1 hxl
    refine (C1.out _ B1).mono ?_
    intro e v4 h1
    obtain ⟨xF,pF,yF,qF,rfl,VF,G⟩:=VP.out _ _ _ h1
    have GA:=alloc_below v4 (.cells #[.slice xF D1 pF,.slice yF N1 qF] 33 (0,0))
    have XA:=(XA.next G).next GA
    have XW:=(XW.next G).next GA
    have VW:=(VW.below G).below GA
    have VF:=VF.below GA
    have B1':=bch (bch B1 G (Nat.le_refl _)) GA (Nat.le_refl _)
    have B1:=B1'
    clear B1'
    have XF:=Bx.new v4 (.slice xF D1 pF) (.slice yF N1 qF)
    have x0:=XA.c0
    have x1:=XA.c1
    have hxl:=XA.lt
    clear h1 G GA
    generalize hu4:(v4.alloc (.cells #[.slice xF D1 pF,.slice yF N1 qF] 33 (0,0)))=u4 at *
    go_wp2_with fail
    clear hu4 x0 x1 hxl
    generalize v4.heap.size=bF at *
    refine (C2.out _ B1).mono ?_
    intro e v5 h1
    obtain ⟨xG,pG,yG,qG,rfl,VG,G⟩:=VR.out _ _ _ h1
    have GA:=alloc_below v5 (.cells #[.slice xG D2 pG,.slice yG N2 qG] 33 (0,0))
    have XA:=(XA.next G).next GA
    have XW:=(XW.next G).next GA
    have XF:=(XF.next G).next GA
    have VW:=(VW.below G).below GA
    have VF:=(VF.below G).below GA
    have VG:=VG.below GA
    have B1':=bch (bch B1 G (Nat.le_refl _)) GA (Nat.le_refl _)
    have B1:=B1'
    clear B1'
    have XG:=Bx.new v5 (.slice xG D2 pG) (.slice yG N2 qG)
    have x0:=XA.c0
    have x1:=XA.c1
    have hxl:=XA.lt
    clear h1 G GA
    generalize hu5:(v5.alloc (.cells #[.slice xG D2 pG,.slice yG N2 qG] 33 (0,0)))=u5 at *
    go_wp2_with fail
    clear hu5 x0 x1 hxl
    generalize v5.heap.size=bG at *
    refine (C3.out _ B1).mono ?_
    intro e v6 h1
    obtain ⟨xH,pH,yH,qH,rfl,VH,G⟩:=VK.out _ _ _ h1
    have GA:=alloc_below v6 (.cells #[.slice xH D3 pH,.slice yH N3 qH] 33 (0,0))
    have XA:=(XA.next G).next GA
    have XW:=(XW.next G).next GA
    have XF:=(XF.next G).next GA
    have XG:=(XG.next G).next GA
    have VW:=(VW.below G).below GA
    have VF:=(VF.below G).below GA
    have VG:=(VG.below G).below GA
    have VH:=VH.below GA
    have B1':=bch (bch B1 G (Nat.le_refl _)) GA (Nat.le_refl _)
    have B1:=B1'
    clear B1'
    have XH:=Bx.new v6 (.slice xH D3 pH) (.slice yH N3 qH)
    have x0:=XA.c0
    have x1:=XA.c1
    have hxl:=XA.lt
    clear h1 G GA
    generalize hu6:(v6.alloc (.cells #[.slice xH D3 pH,.slice yH N3 qH] 33 (0,0)))=u6 at *
    go_wp2_with fail
    clear hu6 x0 x1 hxl
    generalize v6.heap.size=bH at *
    refine (C4.out _ B1).mono ?_
    intro e v7 h1
    obtain ⟨xI,pI,yI,qI,rfl,VI,G⟩:=VP.out _ _ _ h1
    have GA:=alloc_below v7 (.cells #[.slice xI D1 pI,.slice yI N1 qI] 33 (0,0))
    have XA:=(XA.next G).next GA
    have XW:=(XW.next G).next GA
    have XF:=(XF.next G).next GA
    have XG:=(XG.next G).next GA
    have XH:=(XH.next G).next GA
    have VW:=(VW.below G).below GA
    have VF:=(VF.below G).below GA
    have VG:=(VG.below G).below GA
    have VH:=(VH.below G).below GA
    have VI:=VI.below GA
    have B1':=bch (bch B1 G (Nat.le_refl _)) GA (Nat.le_refl _)
    have B1:=B1'
    clear B1'
    have XI:=Bx.new v7 (.slice xI D1 pI) (.slice yI N1 qI)
    have x0:=XA.c0
    have x1:=XA.c1
    have hxl:=XA.lt
    clear h1 G GA
    generalize hu7:(v7.alloc (.cells #[.slice xI D1 pI,.slice yI N1 qI] 33 (0,0)))=u7 at *
    go_wp2_with fail
    clear hu7 x0 x1 hxl
    generalize v7.heap.size=bI at *
    refine (C5.out _ B1).mono ?_
    intro e v8 h1
    obtain ⟨xJ,pJ,yJ,qJ,rfl,VJ,G⟩:=VR.out _ _ _ h1
    have GA:=alloc_below v8 (.cells #[.slice xJ D2 pJ,.slice yJ N2 qJ] 33 (0,0))
    have XA:=(XA.next G).next GA
    have XW:=(XW.next G).next GA
    have XF:=(XF.next G).next GA
    have XG:=(XG.next G).next GA
    have XH:=(XH.next G).next GA
    have XI:=(XI.next G).next GA
    have VW:=(VW.below G).below GA
    have VF:=(VF.below G).below GA
    have VG:=(VG.below G).below GA
    have VH:=(VH.below G).below GA
    have VI:=(VI.below G).below GA
    have VJ:=VJ.below GA
    have B1':=bch (bch B1 G (Nat.le_refl _)) GA (Nat.le_refl _)
    have B1:=B1'
    clear B1'
    have XJ:=Bx.new v8 (.slice xJ D2 pJ) (.slice yJ N2 qJ)
    have x0:=XA.c0
    have x1:=XA.c1
    have hxl:=XA.lt
    clear h1 G GA
    generalize hu8:(v8.alloc (.cells #[.slice xJ D2 pJ,.slice yJ N2 qJ] 33 (0,0)))=u8 at *
    go_wp2_with fail
    clear hu8 x0 x1 hxl
    generalize v8.heap.size=bJ at *
    refine (C6.out _ B1).mono ?_
    intro e v9 h1
    obtain ⟨xM,pM,yM,qM,rfl,VM,G⟩:=VK.out _ _ _ h1
    have GA:=alloc_below v9 (.cells #[.slice xM D3 pM,.slice yM N3 qM] 33 (0,0))
    have XA:=(XA.next G).next GA
    have XW:=(XW.next G).next GA
    have XF:=(XF.next G).next GA
    have XG:=(XG.next G).next GA
    have XH:=(XH.next G).next GA
    have XI:=(XI.next G).next GA
    have XJ:=(XJ.next G).next GA
    have VW:=(VW.below G).below GA
    have VF:=(VF.below G).below GA
    have VG:=(VG.below G).below GA
    have VH:=(VH.below G).below GA
    have VI:=(VI.below G).below GA
    have VJ:=(VJ.below G).below GA
    have VM:=VM.below GA
    have B1':=bch (bch B1 G (Nat.le_refl _)) GA (Nat.le_refl _)
    have B1:=B1'
    clear B1'
    have XM:=Bx.new v9 (.slice xM D3 pM) (.slice yM N3 qM)
    have x0:=XA.c0
    have x1:=XA.c1
    have hxl:=XA.lt
    clear h1 G GA
    generalize hu9:(v9.alloc (.cells #[.slice xM D3 pM,.slice yM N3 qM] 33 (0,0)))=u9 at *
    go_wp2_with fail
    clear hu9 x0 x1 hxl
    generalize v9.heap.size=bM at *
    refine (C7.out _ B1).mono ?_
    rintro e z0 ⟨rfl,G⟩
    have XA:=XA.next G
    have XW:=XW.next G
    have XF:=XF.next G
    have XG:=XG.next G
    have XH:=XH.next G
    have XI:=XI.next G
    have XJ:=XJ.next G
    have XM:=XM.next G
    have VW:=VW.below G
    have VF:=VF.below G
    have VG:=VG.below G
    have VH:=VH.below G
    have VI:=VI.below G
    have VJ:=VJ.below G
    have VM:=VM.below G
    have B3:=bch B1 G (Nat.le_refl _)
    clear G B1
    have VA:=HVA.out _ B3
    have k0:=XA.c0
    have k1:=XA.c1
    have k2:=XW.c0
    have k3:=XW.c1
    go_wp2_with fail
    clear k0 k1 k2 k3
    refine (KA.out _ _ _ _ _ _ _ _ _ VA VW).mono ?_
    rintro e z1 ⟨rfl,G⟩
    have XF:=XF.next G
    have XG:=XG.next G
    have XH:=XH.next G
    have XI:=XI.next G
    have XJ:=XJ.next G
    have XM:=XM.next G
    have VF:=VF.below G
    have VG:=VG.below G
    have VH:=VH.below G
    have VI:=VI.below G
    have VJ:=VJ.below G
    have VM:=VM.below G
    have B4:=bch B3 G (Nat.le_refl _)
    clear G B3
    have k0:=XF.c0
    have k1:=XF.c1
    have k2:=XI.c0
    have k3:=XI.c1
    go_wp2_with fail
    clear k0 k1 k2 k3
    refine (KP.out _ _ _ _ _ _ _ _ _ VF VI).mono ?_
    rintro e z2 ⟨rfl,G⟩
    have XG:=XG.next G
    have XH:=XH.next G
    have XJ:=XJ.next G
    have XM:=XM.next G
    have VG:=VG.below G
    have VH:=VH.below G
    have VJ:=VJ.below G
    have VM:=VM.below G
    have B5:=bch B4 G (Nat.le_refl _)
    clear G B4
    have k0:=XG.c0
    have k1:=XG.c1
    have k2:=XJ.c0
    have k3:=XJ.c1
    go_wp2_with fail
    clear k0 k1 k2 k3
    refine (KR.out _ _ _ _ _ _ _ _ _ VG VJ).mono ?_
    rintro e z3 ⟨rfl,G⟩
    have XH:=XH.next G
    have XM:=XM.next G
    have VH:=VH.below G
    have VM:=VM.below G
    have B6:=bch B5 G (Nat.le_refl _)
    clear G B5
    have k0:=XH.c0
    have k1:=XH.c1
    have k2:=XM.c0
    have k3:=XM.c1
    go_wp2_with fail
    clear k0 k1 k2 k3
    refine (KK.out _ _ _ _ _ _ _ _ _ VH VM).mono ?_
    rintro e z4 ⟨rfl,G⟩
    have B7:=bch B6 G (Nat.le_refl _)
    clear G B6
    go_wp2_with fail
    go_ret
    exact ⟨rfl,B7⟩
end Go.Proofs.YtbjbjbpgmojcbacGreat
