/- A part of the proof: what it leans on. -/
import Derived.Test.YtbjbjbpgmojcbabGreatLsBook19
namespace Go.Proofs.YtbjbjbpgmojcbabGreat
open Go.RowKit
set_option maxRecDepth 8000 in
set_option maxHeartbeats 4000000 in
theorem ZfS (s:ByteArray) (k n:Int) (nm tx:ByteArray) (w:World) (hz:s.size<=140737488355328) (hn:nm.size<=140737488355328) (ht:tx.size<=140737488355328) (hM:Mx w) :
 Calls Tryz.prog 12 #[.string s,.agg #[.int .i64 k,.int .i64 n,.string nm,.string tx]] w fun e w'=>e=.returned (.bool true)/\Below w.heap.size w w':=by
 have C1:Hid (∀ w',Below w.heap.size w w'->Calls Tryz.prog 45 #[.string s] w' fun e w2=>Zca (Im.done (Im.rplL s)) (Im.rplL s).length (Im.rplE s) w' e w2):=fun w' h9=>Zen s w' (hM.below h9)
 have C2:Hid (∀ w',Calls Tryz.prog 43 #[.string s] w' fun e w2=>RpSaid (Im.rplL s) (Im.rplN s) (Im.rplE s) w' e w2):=fun w'=>ZdD s w' (by omega)
 have C3:Hid (∀ w',Below w.heap.size w w'->Calls Tryz.prog 46 #[.string s,.agg #[.int .i64 k,.int .i64 n,.string nm,.string tx]] w' fun e w2=>e=.returned (.tuple #[.string (Im.stoT s ⟨k,n,nm,tx⟩),.int .i64 (Im.stoE s ⟨k,n,nm,tx⟩)])/\Below w'.heap.size w' w2):=fun w' h9=>ZcP s k n nm tx w' hn ht (hM.below h9)
 have C4:Hid (∀ w',Calls Tryz.prog 47 #[.string s,.agg #[.int .i64 k,.int .i64 n,.string nm,.string tx]] w' fun e w2=>e=.returned (.tuple #[.string (Im.stoT s ⟨k,n,nm,tx⟩),.int .i64 (Im.stoE s ⟨k,n,nm,tx⟩)])/\Below w'.heap.size w' w2):=fun w'=>Zix s k n nm tx w' (by omega) hn
 have C5:Hid (∀ w',Below w.heap.size w w'->Calls Tryz.prog 38 #[] w' fun e w2=>e=.returned (.bool true)/\Below w'.heap.size w' w2):=fun w' h9=>Zdy w' (hM.below h9)
 have hl:=(Im.ZgD s).2.1;have hX:=Zeh s;have C6:Hid (∀ w' x p,XSl w' x (Im.rplL s)->Calls Tryz.prog 48 #[.slice x (Im.rplL s).length p] w' fun e w2=>ZbJ (Im.done (Im.rplL s)) w' e w2):=fun w' x p hv=>Zfk x p _ w' hv hX (by omega)
 have sO:SaneA (Im.done (Im.rplL s)):=SaneA.done hX;have K1:Hid (∀ w' x y p q x' y' p' q',ArV w' x y (Im.done (Im.rplL s))->ArV w' x' y' (Im.done (Im.rplL s))->Calls Tryz.prog 20 #[av x p y q (Im.done (Im.rplL s)),av x' p' y' q' (Im.done (Im.rplL s))] w' fun e w2=>e=.returned (.bool true)/\Below w'.heap.size w' w2):=fun w' x y p q x' y' p' q' hv hv'=>Zjn x y x' y' p q p' q' _ w' hv hv' sO.nd sO.nf
 have O1:Hid (∀ (w:World) (e:Ending) (w':World),Zca (Im.done (Im.rplL s)) (Im.rplL s).length (Im.rplE s) w e w'->∃ x p y q,e=.returned (.tuple #[.agg #[.slice x (Im.done (Im.rplL s)).dicts.length p,.slice y (Im.done (Im.rplL s)).files.length q],.int .i64 ((Im.rplL s).length:Nat),.int .i64 (Im.rplE s)])/\ArV w' x y (Im.done (Im.rplL s))/\Below w.heap.size w w'):=fun w e w' h=>by
  obtain ⟨v1,v2,rfl,O,G⟩:=h;obtain ⟨x,p,y,q,rfl,rfl,hv⟩:=O.slices;exact ⟨x,p,y,q,rfl,hv,G⟩
 have O2:Hid (∀ (w:World) (e:Ending) (w':World),RpSaid (Im.rplL s) (Im.rplN s) (Im.rplE s) w e w'->∃ x p,e=.returned (.tuple #[.slice x (Im.rplL s).length p,.int .i64 (Im.rplN s:Nat),.int .i64 (Im.rplE s)])/\XSl w' x (Im.rplL s)/\Below w.heap.size w w'):=fun _ _ _ h=>h.open
 have O6:Hid (∀ (w:World) (e:Ending) (w':World),ZbJ (Im.done (Im.rplL s)) w e w'->∃ x p y q,e=.returned (.agg #[.slice x (Im.done (Im.rplL s)).dicts.length p,.slice y (Im.done (Im.rplL s)).files.length q])/\ArV w' x y (Im.done (Im.rplL s))/\Below w.heap.size w w'):=fun w e w' h=>by
  obtain ⟨v1,v2,rfl,O,G⟩:=h;obtain ⟨x,p,y,q,rfl,rfl,hv⟩:=O.slices;exact ⟨x,p,y,q,rfl,hv,G⟩
 clear hM hn ht hl hX sO;unfold av at K1;generalize Im.stoT s ⟨k,n,nm,tx⟩=T at *;generalize Im.stoE s ⟨k,n,nm,tx⟩=E at *;generalize Im.rplN s=RN at *;generalize Im.rplE s=RE at *;generalize Im.done (Im.rplL s)=A at *;generalize Im.rplL s=l at *;generalize l.length=N at *;generalize A.dicts.length=D1 at *;generalize A.files.length=N1 at *;have hTT:(T.toList == T.toList)=true:=by simp
 have h1:(E == E)=true:=by simp
 have h2:(RE == RE)=true:=by simp
 have h3:((N:Int) == (N:Int))=true:=by simp
 have B:=Za w (.cells #[.int .i64 k,.int .i64 n,.string nm,.string tx] 54 (0,0));have X:=XB.new w 54 k n nm tx;go_enter Tryz.func12,Tryz.ntmps12
 go_wp2_with fail
 generalize (w.alloc (.cells #[.int .i64 k,.int .i64 n,.string nm,.string tx] 54 (0,0)))=u0 at *;refine (C1.out _ B).mono ?_;intro e v1 h1;obtain ⟨xB,pB,yB,qB,rfl,VB,G⟩:=O1.out _ _ _ h1;have GA:=Za v1 (.cells #[.slice xB D1 pB,.slice yB N1 qB] 25 (0,0));have X:=(X.next G).next GA;have VB:=VB.below GA;have XB1:=Bx.new v1 (.slice xB D1 pB) (.slice yB N1 qB);have B:=bch (bch B G (nl _)) GA (nl _);clear h1 G GA C1 O1;go_wp2_with fail
 generalize (v1.alloc (.cells #[.slice xB D1 pB,.slice yB N1 qB] 25 (0,0)))=u1 at *;generalize v1.heap.size=bB at *;refine (C2.out _).mono ?_;intro e w2 h1;obtain ⟨x2,p2,rfl,V2,G⟩:=O2.out _ _ _ h1;have X:=X.next G;have VB:=VB.below G;have XB1:=XB1.next G;have B:=bch B G (nl _);clear G h1 C2 O2;obtain ⟨y0,y1,y2,y3,_⟩:=id X;go_wp2_with fail
 clear y0 y1 y2 y3;refine (C3.out _ B).mono ?_;rintro e w3 ⟨rfl,G⟩;have X:=X.next G;have VB:=VB.below G;have V2:=V2.below G;have XB1:=XB1.next G;have B:=bch B G (nl _);clear G C3;obtain ⟨y0,y1,y2,y3,_⟩:=id X;go_wp2_with fail
 clear y0 y1 y2 y3;refine (C4.out _).mono ?_;rintro e u4 ⟨rfl,G⟩;have VB:=VB.below G;have V2:=V2.below G;have XB1:=XB1.next G;have B:=bch B G (nl _);clear G C4 X;go_wp2_with fail
 have HS:Hid (∀ w',Below u4.heap.size u4 w'->w'.cell? ⟨bB,0,none⟩=some (.slice xB D1 pB)/\w'.cell? ⟨bB,1,none⟩=some (.slice yB N1 qB)):=fun w' h9=>⟨(XB1.next h9).c0,(XB1.next h9).c1⟩
 have D5:Hid (∀ w',Below u4.heap.size u4 w'->Calls Tryz.prog 38 #[] w' fun e w2=>e=.returned (.bool true)/\Below w'.heap.size w' w2):=fun w' h9=>C5.out w' (bch B h9 (nl _))
 have D6:Hid (∀ w',Below u4.heap.size u4 w'->Calls Tryz.prog 48 #[.slice x2 N p2] w' fun e w2=>ZbJ A w' e w2):=fun w' h9=>C6.out w' _ _ (V2.below h9)
 have D8:Hid (∀ w' x y p q,Below u4.heap.size u4 w'->ArV w' x y A->Calls Tryz.prog 20 #[.agg #[.slice xB D1 pB,.slice yB N1 qB],.agg #[.slice x D1 p,.slice y N1 q]] w' fun e w2=>e=.returned (.bool true)/\Below w'.heap.size w' w2):=fun w' x y p q h9 hv=>K1.out w' _ _ _ _ _ _ _ _ (VB.below h9) hv
 clear XB1 VB V2 C5 C6 K1;go_region_held3 (fun w'=>w'.cell? ⟨bB,0,none⟩=some (.slice xB D1 pB)/\w'.cell? ⟨bB,1,none⟩=some (.slice yB N1 qB))
  (first | (exact HS.out _ ((bR _ _).drew)) | (exact HS.out _ E1) | (exact HS.out _ E2) | (exact HS.out _ E3))
  (first
   | (go_at_call 38;refine (D5.out _ ((bR _ _).drew)).mono ?_;rintro e t1 ⟨rfl,G1⟩;have E1:Below u4.heap.size u4 t1:=bch ((bR _ _).drew) G1 (nl _))
   | (go_at_call 48;refine (D6.out _ E1).mono ?_;intro e t2 h9;obtain ⟨x9,p9,y9,q9,rfl,V9,G2⟩:=O6.out _ _ _ h9;have E2:Below u4.heap.size u4 t2:=bch E1 G2 (nl _))
   | (go_at_call 20;refine (D8.out _ _ _ _ _ E2 V9).mono ?_;rintro e t3 ⟨rfl,G3⟩;have E3:Below u4.heap.size u4 t3:=bch E2 G3 (nl _)))
 all_goals
  have B9:=bch B E3 (nl _);go_wp2_with fail
  go_ret
  exact ⟨rfl,B9⟩
end Go.Proofs.YtbjbjbpgmojcbabGreat
