/- A part of the proof: what it leans on. -/
import Derived.Test.YtbjbjbpgmojcbabGreatBookT13
import Derived.Test.YtbjbjbpgmojcbabGreatBookT16
namespace Go.Proofs.YtbjbjbpgmojcbabGreat
open Go.RowKit
set_option maxRecDepth 8000 in
set_option maxHeartbeats 8000000 in
theorem archTrains_any (ad af:Option Addr) (cd cf:Nat) (a:Ar.A) (size:Int) (w:World) (h:ArV w ad af a) (hs:SaneA a) (hM:Mx w) :
 Calls Tryz.prog 5 #[av ad cd af cf a,.int .i64 size] w fun e w'=>e=.returned (.bool true)/\Below w.heap.size w w':=by
 have C1:Hid (∀ w',Below w.heap.size w w'->Calls Tryz.prog 25 #[av ad cd af cf a,.int .i64 size] w' fun e w2=>ArSaid w' (Ar.retA a size) (Ar.retE a size) e w2):=fun w' h9=>archRetrain_any ad af cd cf a size w' (h.below h9) hs (hM.below h9)
 have C2:Hid (∀ w',Below w.heap.size w w'->Calls Tryz.prog 26 #[av ad cd af cf a] w' fun e w2=>ArSaid w' (Ar.cmpA a) (Ar.chk a) e w2):=fun w' h9=>archCompact_any ad af cd cf a w' (h.below h9) hs
 have C3:Hid (∀ w',Below w.heap.size w w'->Calls Tryz.prog 28 #[av ad cd af cf a,.int .i64 size] w' fun e w2=>ArSaid w' (Ar.retA a size) (Ar.retE a size) e w2):=fun w' h9=>retrainOf_any ad af cd cf a size w' (h.below h9) hs
 have C4:Hid (∀ w',Below w.heap.size w w'->Calls Tryz.prog 29 #[av ad cd af cf a] w' fun e w2=>ArSaid w' (Ar.cmpA a) (Ar.chk a) e w2):=fun w' h9=>compactOf_any ad af cd cf a w' (h.below h9) hs
 have C5:Hid (∀ w',Below w.heap.size w w'->Calls Tryz.prog 17 #[] w' fun e w2=>e=.returned (.bool true)/\Below w'.heap.size w' w2):=fun w' h9=>archBegun_any w' (hM.below h9)
 have C6:Hid (∀ w',Below w.heap.size w w'->Calls Tryz.prog 27 #[av ad cd af cf a] w' fun e w2=>e=.returned (.tuple #[.int .i64 (Ar.szN a:Nat),.int .i64 (Ar.chk a)])/\Below w'.heap.size w' w2):=fun w' h9=>archSize_any ad af cd cf a w' (h.below h9) hs
 have C7:Hid (Ar.chk a=0->∀ w',Below w.heap.size w w'->Calls Tryz.prog 30 #[av ad cd af cf a] w' fun e w2=>e=.returned (.int .i64 (Ar.szN a:Nat))/\Below w'.heap.size w' w2):=fun hc w' h9=>by
  have e:Ar.szN a=Ar.sz a:=by unfold Ar.szN;rw [if_pos hc]
  rw [e]
  exact sizeOf_any ad af cd cf a w' (h.below h9) hs hc
 have P1:Hid (Ar.chk a ≠ 0->Ar.szN a=0):=fun hc=>by unfold Ar.szN;rw [if_neg hc]
 have sB:SaneA (Ar.retA a size):=hs.ret size
 have sC:SaneA (Ar.cmpA a):=hs.cmp
 have K1:Hid (∀ w' x y p q x' y' p' q',ArV w' x y (Ar.retA a size)->ArV w' x' y' (Ar.retA a size)->Calls Tryz.prog 20 #[av x p y q (Ar.retA a size),av x' p' y' q' (Ar.retA a size)] w' fun e w2=>e=.returned (.bool true)/\Below w'.heap.size w' w2):=fun w' x y p q x' y' p' q' hv hv'=>same_any x y x' y' p q p' q' _ w' hv hv' sB.nd sB.nf
 have K2:Hid (∀ w' x y p q x' y' p' q',ArV w' x y (Ar.cmpA a)->ArV w' x' y' (Ar.cmpA a)->Calls Tryz.prog 20 #[av x p y q (Ar.cmpA a),av x' p' y' q' (Ar.cmpA a)] w' fun e w2=>e=.returned (.bool true)/\Below w'.heap.size w' w2):=fun w' x y p q x' y' p' q' hv hv'=>same_any x y x' y' p q p' q' _ w' hv hv' sC.nd sC.nf
 have O1:Hid (∀ (w:World) (e:Ending) (w':World),ArSaid w (Ar.retA a size) (Ar.retE a size) e w'->∃ x p y q,e=.returned (.tuple #[.agg #[.slice x (Ar.retA a size).dicts.length p,.slice y (Ar.retA a size).files.length q],.int .i64 (Ar.retE a size)])/\ArV w' x y (Ar.retA a size)/\Below w.heap.size w w'):=fun _ _ _ h=>h.open
 have O2:Hid (∀ (w:World) (e:Ending) (w':World),ArSaid w (Ar.cmpA a) (Ar.chk a) e w'->∃ x p y q,e=.returned (.tuple #[.agg #[.slice x (Ar.cmpA a).dicts.length p,.slice y (Ar.cmpA a).files.length q],.int .i64 (Ar.chk a)])/\ArV w' x y (Ar.cmpA a)/\Below w.heap.size w w'):=fun _ _ _ h=>h.open
 clear h hs sB sC hM
 unfold av at C1 C2 C3 C4 C6 C7 K1 K2 |-
 generalize Ar.retA a size=b at *
 generalize Ar.retE a size=pe at *
 generalize Ar.cmpA a=c at *
 generalize Ar.chk a=de at *
 generalize Ar.szN a=sz at *
 generalize a.dicts.length=D at *
 generalize a.files.length=N at *
 generalize b.dicts.length=D1 at *
 generalize b.files.length=N1 at *
 generalize c.dicts.length=D2 at *
 generalize c.files.length=N2 at *
 go_enter Tryz.func5,Tryz.ntmps5
 go_wp2_with fail
 have XA:=Bx.new w (.slice ad D cd) (.slice af N cf)
 have B1:=alloc_below w (.cells #[.slice ad D cd,.slice af N cf] 25 (0,0))
 generalize (w.alloc (.cells #[.slice ad D cd,.slice af N cf] 25 (0,0)))=u0 at *
 refine (C1.out _ B1).mono ?_
 intro e v1 h1
 obtain ⟨xB,pB,yB,qB,rfl,VB,G⟩:=O1.out _ _ _ h1
 have GA:=alloc_below v1 (.cells #[.slice xB D1 pB,.slice yB N1 qB] 25 (0,0))
 have XA:=(XA.next G).next GA
 have VB:=VB.below GA
 have XB:=Bx.new v1 (.slice xB D1 pB) (.slice yB N1 qB)
 have B1':=bch (bch B1 G (Nat.le_refl _)) GA (Nat.le_refl _)
 have B1:=B1'
 clear B1'
 have x0:=XA.c0
 have x1:=XA.c1
 have hxl:=XA.lt
 clear h1 G GA
 generalize hu1:(v1.alloc (.cells #[.slice xB D1 pB,.slice yB N1 qB] 25 (0,0)))=u1 at *
 go_wp2_with fail
 clear hu1 x0 x1 hxl
 generalize v1.heap.size=bB at *
 refine (C2.out _ B1).mono ?_
 intro e v2 h1
 obtain ⟨xC,pC,yC,qC,rfl,VC,G⟩:=O2.out _ _ _ h1
 have GA:=alloc_below v2 (.cells #[.slice xC D2 pC,.slice yC N2 qC] 25 (0,0))
 have XA:=(XA.next G).next GA
 have XB:=(XB.next G).next GA
 have VB:=(VB.below G).below GA
 have VC:=VC.below GA
 have XC:=Bx.new v2 (.slice xC D2 pC) (.slice yC N2 qC)
 have B1':=bch (bch B1 G (Nat.le_refl _)) GA (Nat.le_refl _)
 have B1:=B1'
 clear B1'
 have x0:=XA.c0
 have x1:=XA.c1
 have hxl:=XA.lt
 clear h1 G GA
 generalize hu2:(v2.alloc (.cells #[.slice xC D2 pC,.slice yC N2 qC] 25 (0,0)))=u2 at *
 go_wp2_with fail
 clear hu2 x0 x1 hxl
 generalize v2.heap.size=bC at *
 refine (C6.out _ B1).mono ?_
 rintro e us ⟨rfl,G⟩
 have XA:=XA.next G
 have XB:=XB.next G
 have XC:=XC.next G
 have VB:=VB.below G
 have VC:=VC.below G
 have B1':=bch B1 G (Nat.le_refl _)
 have B1:=B1'
 clear B1' G
 have x0:=XA.c0
 have x1:=XA.c1
 go_wp2_with fail
 clear x0 x1
 refine (C3.out _ B1).mono ?_
 intro e v4 h1
 obtain ⟨xX,pX,yX,qX,rfl,VX,G⟩:=O1.out _ _ _ h1
 have GA:=alloc_below v4 (.cells #[.slice xX D1 pX,.slice yX N1 qX] 25 (0,0))
 have XA:=(XA.next G).next GA
 have XB:=(XB.next G).next GA
 have XC:=(XC.next G).next GA
 have VB:=(VB.below G).below GA
 have VC:=(VC.below G).below GA
 have VX:=VX.below GA
 have XX:=Bx.new v4 (.slice xX D1 pX) (.slice yX N1 qX)
 have B1':=bch (bch B1 G (Nat.le_refl _)) GA (Nat.le_refl _)
 have B1:=B1'
 clear B1'
 have x0:=XA.c0
 have x1:=XA.c1
 have hxl:=XA.lt
 clear h1 G GA
 generalize hu4:(v4.alloc (.cells #[.slice xX D1 pX,.slice yX N1 qX] 25 (0,0)))=u4 at *
 go_wp2_with fail
 clear hu4 x0 x1 hxl
 generalize v4.heap.size=bX at *
 refine (C4.out _ B1).mono ?_
 intro e v5 h1
 obtain ⟨xY,pY,yY,qY,rfl,VY,G⟩:=O2.out _ _ _ h1
 have GA:=alloc_below v5 (.cells #[.slice xY D2 pY,.slice yY N2 qY] 25 (0,0))
 have XA:=(XA.next G).next GA
 have XB:=(XB.next G).next GA
 have XC:=(XC.next G).next GA
 have XX:=(XX.next G).next GA
 have VB:=(VB.below G).below GA
 have VC:=(VC.below G).below GA
 have VX:=(VX.below G).below GA
 have VY:=VY.below GA
 have XY:=Bx.new v5 (.slice xY D2 pY) (.slice yY N2 qY)
 have B1':=bch (bch B1 G (Nat.le_refl _)) GA (Nat.le_refl _)
 have B1:=B1'
 clear B1'
 have x0:=XA.c0
 have x1:=XA.c1
 have hxl:=XA.lt
 clear h1 G GA
 generalize hu5:(v5.alloc (.cells #[.slice xY D2 pY,.slice yY N2 qY] 25 (0,0)))=u5 at *
 by_cases hd:de=0
 · have dd:(de == 0)=true:=by simpa using hd
   have C8:=C7.out hd
   subst hd
   go_wp2_with fail
   clear hu5 x0 x1 hxl
   generalize v5.heap.size=bY at *
   refine (C8 _ B1).mono ?_
   rintro e us2 ⟨rfl,G⟩
   have XB:=XB.next G
   have XC:=XC.next G
   have XX:=XX.next G
   have XY:=XY.next G
   have VB:=VB.below G
   have VC:=VC.below G
   have VX:=VX.below G
   have VY:=VY.below G
   have B1':=bch B1 G (Nat.le_refl _)
   have B1:=B1'
   clear B1' G C8
   go_wp2_with fail
   refine (C5.out _ B1).mono ?_
   rintro e z1 ⟨rfl,G⟩
   have XB:=XB.next G
   have XC:=XC.next G
   have XX:=XX.next G
   have XY:=XY.next G
   have VB:=VB.below G
   have VC:=VC.below G
   have VX:=VX.below G
   have VY:=VY.below G
   have B2:=bch B1 G (Nat.le_refl _)
   clear G B1
   have k0:=XB.c0
   have k1:=XB.c1
   have k2:=XX.c0
   have k3:=XX.c1
   go_wp2_with fail
   clear k0 k1 k2 k3
   refine (K1.out _ _ _ _ _ _ _ _ _ VB VX).mono ?_
   rintro e z2 ⟨rfl,G⟩
   have XC:=XC.next G
   have XY:=XY.next G
   have VC:=VC.below G
   have VY:=VY.below G
   have B3:=bch B2 G (Nat.le_refl _)
   clear G B2
   have k0:=XC.c0
   have k1:=XC.c1
   have k2:=XY.c0
   have k3:=XY.c1
   go_wp2_with fail
   clear k0 k1 k2 k3
   refine (K2.out _ _ _ _ _ _ _ _ _ VC VY).mono ?_
   rintro e z3 ⟨rfl,G⟩
   have B4:=bch B3 G (Nat.le_refl _)
   clear G B3
   go_wp2_with fail
   go_ret
   exact ⟨rfl,B4⟩
 · have dd:(de == 0)=false:=by simpa using hd
   have hsz:=P1.out hd
   subst hsz
   go_wp2_with fail
   clear hu5 x0 x1 hxl
   generalize v5.heap.size=bY at *
   refine (C5.out _ B1).mono ?_
   rintro e z1 ⟨rfl,G⟩
   have XB:=XB.next G
   have XC:=XC.next G
   have XX:=XX.next G
   have XY:=XY.next G
   have VB:=VB.below G
   have VC:=VC.below G
   have VX:=VX.below G
   have VY:=VY.below G
   have B2:=bch B1 G (Nat.le_refl _)
   clear G B1
   have k0:=XB.c0
   have k1:=XB.c1
   have k2:=XX.c0
   have k3:=XX.c1
   go_wp2_with fail
   clear k0 k1 k2 k3
   refine (K1.out _ _ _ _ _ _ _ _ _ VB VX).mono ?_
   rintro e z2 ⟨rfl,G⟩
   have XC:=XC.next G
   have XY:=XY.next G
   have VC:=VC.below G
   have VY:=VY.below G
   have B3:=bch B2 G (Nat.le_refl _)
   clear G B2
   have k0:=XC.c0
   have k1:=XC.c1
   have k2:=XY.c0
   have k3:=XY.c1
   go_wp2_with fail
   clear k0 k1 k2 k3
   refine (K2.out _ _ _ _ _ _ _ _ _ VC VY).mono ?_
   rintro e z3 ⟨rfl,G⟩
   have B4:=bch B3 G (Nat.le_refl _)
   clear G B3
   go_wp2_with fail
   go_ret
   exact ⟨rfl,B4⟩
end Go.Proofs.YtbjbjbpgmojcbabGreat
