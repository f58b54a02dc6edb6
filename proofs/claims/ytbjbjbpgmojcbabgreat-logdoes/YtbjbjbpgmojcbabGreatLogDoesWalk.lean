/- A part of the proof: what it leans on. -/
import Derived.Test.YtbjbjbpgmojcbabGreatLsBook18
namespace Go.Proofs.YtbjbjbpgmojcbabGreat
open Go.RowKit
set_option maxRecDepth 8000 in
set_option maxHeartbeats 4000000 in
theorem ZhU (ad af:Option Addr) (cd cf:Nat) (a:Ar.A) (k n:Int) (nm tx:ByteArray) (w:World) (h:ArV w ad af a) (hs:SaneA a) (hn:nm.size<=140737488355328) (ht:tx.size<=140737488355328) (hM:Mx w) :
 Calls Tryz.prog 10 #[av ad cd af cf a,.agg #[.int .i64 k,.int .i64 n,.string nm,.string tx]] w fun e w'=>e=.returned (.bool true)/\Below w.heap.size w w':=by
 have C1:Hid (∀ w',Below w.heap.size w w'->Calls Tryz.prog 36 #[av ad cd af cf a,.agg #[.int .i64 k,.int .i64 n,.string nm,.string tx]] w' fun e w2=>ArSaid w' (Im.doA a ⟨k,n,nm,tx⟩) (Im.doE a ⟨k,n,nm,tx⟩) e w2):=fun w' h9=>Zez ad af cd cf a ⟨k,n,nm,tx⟩ w' (h.below h9) hs hn ht (hM.below h9)
 have C2:Hid (∀ w',Below w.heap.size w w'->Calls Tryz.prog 37 #[av ad cd af cf a,.agg #[.int .i64 k,.int .i64 n,.string nm,.string tx]] w' fun e w2=>ArSaid w' (Im.doA a ⟨k,n,nm,tx⟩) (Im.doE a ⟨k,n,nm,tx⟩) e w2):=fun w' h9=>ZfL ad af cd cf a ⟨k,n,nm,tx⟩ w' (h.below h9) hs hn
 have C5:Hid (∀ w',Below w.heap.size w w'->Calls Tryz.prog 38 #[] w' fun e w2=>e=.returned (.bool true)/\Below w'.heap.size w' w2):=fun w' h9=>Zdy w' (hM.below h9)
 have sO:SaneA (Im.doA a ⟨k,n,nm,tx⟩):=hs.do hn
 have K1:Hid (∀ w' x y p q x' y' p' q',ArV w' x y (Im.doA a ⟨k,n,nm,tx⟩)->ArV w' x' y' (Im.doA a ⟨k,n,nm,tx⟩)->Calls Tryz.prog 20 #[av x p y q (Im.doA a ⟨k,n,nm,tx⟩),av x' p' y' q' (Im.doA a ⟨k,n,nm,tx⟩)] w' fun e w2=>e=.returned (.bool true)/\Below w'.heap.size w' w2):=fun w' x y p q x' y' p' q' hv hv'=>Zjn x y x' y' p q p' q' _ w' hv hv' sO.nd sO.nf
 have O1:Hid (∀ (w:World) (e:Ending) (w':World),ArSaid w (Im.doA a ⟨k,n,nm,tx⟩) (Im.doE a ⟨k,n,nm,tx⟩) e w'->∃ x p y q,e=.returned (.tuple #[.agg #[.slice x (Im.doA a ⟨k,n,nm,tx⟩).dicts.length p,.slice y (Im.doA a ⟨k,n,nm,tx⟩).files.length q],.int .i64 (Im.doE a ⟨k,n,nm,tx⟩)])/\ArV w' x y (Im.doA a ⟨k,n,nm,tx⟩)/\Below w.heap.size w w'):=fun _ _ _ h=>h.open
 clear h hs sO hM hn ht;unfold av at C1 C2 K1 |-
 generalize Im.doA a ⟨k,n,nm,tx⟩=A at *;generalize Im.doE a ⟨k,n,nm,tx⟩=E at *;generalize a.dicts.length=D at *;generalize a.files.length=N at *;generalize A.dicts.length=D1 at *;generalize A.files.length=N1 at *;have hEE:(E == E)=true:=by simp
 have B1:=Za w (.cells #[.slice ad D cd,.slice af N cf] 25 (0,0));have G2:=Za (w.alloc (.cells #[.slice ad D cd,.slice af N cf] 25 (0,0))) (.cells #[.int .i64 k,.int .i64 n,.string nm,.string tx] 54 (0,0));have XA:=(Bx.new w (.slice ad D cd) (.slice af N cf)).next G2;have X:=XB.new (w.alloc (.cells #[.slice ad D cd,.slice af N cf] 25 (0,0))) 54 k n nm tx;rw [show (w.alloc (.cells #[.slice ad D cd,.slice af N cf] 25 (0,0))).heap.size=w.heap.size+1 by simp] at X;have B:=bch B1 G2 (nl _);clear B1 G2;go_enter Tryz.func10,Tryz.ntmps10
 go_wp2_with fail
 generalize ((w.alloc (.cells #[.slice ad D cd,.slice af N cf] 25 (0,0))).alloc (.cells #[.int .i64 k,.int .i64 n,.string nm,.string tx] 54 (0,0)))=u0 at *;refine (C1.out _ B).mono ?_;intro e v1 h1;obtain ⟨xB,pB,yB,qB,rfl,VB,G⟩:=O1.out _ _ _ h1;have GA:=Za v1 (.cells #[.slice xB D1 pB,.slice yB N1 qB] 25 (0,0));have XA:=(XA.next G).next GA;have X:=(X.next G).next GA;have VB:=VB.below GA;have XB1:=Bx.new v1 (.slice xB D1 pB) (.slice yB N1 qB);have B:=bch (bch B G (nl _)) GA (nl _);clear h1 G GA C1;have x0:=XA.c0;have x1:=XA.c1;obtain ⟨y0,y1,y2,y3,_⟩:=id X;have hxl:=XA.lt;have hyl:=X.lt;generalize hu:(v1.alloc (.cells #[.slice xB D1 pB,.slice yB N1 qB] 25 (0,0)))=u1 at *;go_wp2_with fail
 clear hu x0 x1 y0 y1 y2 y3 hxl hyl;generalize v1.heap.size=bB at *;refine (C2.out _ B).mono ?_;intro e v2 h1;obtain ⟨xX,pX,yX,qX,rfl,VX,G⟩:=O1.out _ _ _ h1;have GA:=Za v2 (.cells #[.slice xX D1 pX,.slice yX N1 qX] 25 (0,0));have XB1:=(XB1.next G).next GA;have VB:=(VB.below G).below GA;have VX:=VX.below GA;have XX:=Bx.new v2 (.slice xX D1 pX) (.slice yX N1 qX);have B:=bch (bch B G (nl _)) GA (nl _);clear h1 G GA C2 XA X;generalize hu:(v2.alloc (.cells #[.slice xX D1 pX,.slice yX N1 qX] 25 (0,0)))=u2 at *;go_wp2_with fail
 clear hu;generalize v2.heap.size=bX at *;refine (C5.out _ B).mono ?_;rintro e z1 ⟨rfl,G⟩;have XB1:=XB1.next G;have XX:=XX.next G;have VB:=VB.below G;have VX:=VX.below G;have B:=bch B G (nl _);clear G C5;have k0:=XB1.c0;have k1:=XB1.c1;have k2:=XX.c0;have k3:=XX.c1;go_wp2_with fail
 refine (K1.out _ _ _ _ _ _ _ _ _ VB VX).mono ?_;rintro e z2 ⟨rfl,G⟩;have B:=bch B G (nl _);go_wp2_with fail
 go_ret
 exact ⟨rfl,B⟩
end Go.Proofs.YtbjbjbpgmojcbabGreat
