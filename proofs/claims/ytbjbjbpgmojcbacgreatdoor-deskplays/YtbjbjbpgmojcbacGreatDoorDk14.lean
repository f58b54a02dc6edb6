/- A part of the proof: what it leans on. -/
import Derived.Test.YtbjbjbpgmojcbacGreatDoorDk13
set_option maxRecDepth 8000
set_option maxHeartbeats 4000000
namespace Go.Proofs.YtbjbjbpgmojcbacGreatDoor
open Ar Bk Cd Dk Im Tk Tr Vy
open Tryz
variable{a:Ar.A}{b dict s:ByteArray}{e n:Int}{fs:List Ar.F}{m:List Tk.T}{l line:List UInt8}{c k p:Nat}{f:Nat->Int}{v v0 x y:Value}{w w' wr:World}
open Go.RowKit
open Dk (ba w1 w2 w3)
def ZG(line:List UInt8)(w:World)(e:Ending)(w':World):Prop:=e=.returned (.tuple #[WI (iY (VW line)),.bool (VW line).isSome])/\ae w w'
theorem qw(h:VW line=none)(G:ae w w'):ZG line w (.returned (.tuple #[WI oz,.bool false])) w':=by unfold ZG;rw[h];exact⟨rfl,G⟩
theorem tq{o:Dk.Ord}(h:VW line=some o)(G:ae w w'):ZG line w (.returned (.tuple #[WI (iY (some o)),.bool true])) w':=by unfold ZG;rw[h];exact⟨rfl,G⟩
def W8(s:ByteArray)(w:World):World:=((w.alloc (.cells #[.string ⟨#[]⟩,.string ⟨#[]⟩,.string ⟨#[]⟩,.int .i64 0,.int .i64 0] 59 (0,0))).alloc (.cells #[.bool false] 4 (0,0))).alloc (.cells #[.string s,.bool true] 78 (0,0))
theorem Bx.newT(w:World)(x y:Value)(T:TypeId):Bx (w.alloc (.cells #[x,y] T (0,0))) w.heap.size x y :=
 ⟨cN _ _ _ 0,cN _ _ _ 1,fN _ _ _ _ rfl,fN _ _ _ _ rfl,by simp⟩
theorem qx(line:List UInt8)(w:World):DR w (W8 (ba line) w) oz line true:=by
 have e1:(w.alloc (.cells #[.string ⟨#[]⟩,.string ⟨#[]⟩,.string ⟨#[]⟩,.int .i64 0,.int .i64 0] 59 (0,0))).heap.size=w.heap.size+1:=by simp
 have e2:((w.alloc (.cells #[.string ⟨#[]⟩,.string ⟨#[]⟩,.string ⟨#[]⟩,.int .i64 0,.int .i64 0] 59 (0,0))).alloc (.cells #[.bool false] 4 (0,0))).heap.size=w.heap.size+2:=by simp
 have F:=FB.new w 59 (.string ⟨#[]⟩) (.string ⟨#[]⟩) (.string ⟨#[]⟩) (.int .i64 0) (.int .i64 0);have g0:=Zb w (.cells #[.string ⟨#[]⟩,.string ⟨#[]⟩,.string ⟨#[]⟩,.int .i64 0,.int .i64 0] 59 (0,0));unfold W8;generalize (w.alloc (.cells #[.string ⟨#[]⟩,.string ⟨#[]⟩,.string ⟨#[]⟩,.int .i64 0,.int .i64 0] 59 (0,0)))=a at*;have g1:=Zb a (.cells #[.bool false] 4 (0,0));have K:Cl (a.alloc (.cells #[.bool false] 4 (0,0))) (w.heap.size+1) (.bool false):=by rw[<-e1];exact⟨cN _ _ _ 0,fN _ _ _ _ rfl⟩
 generalize a.alloc (.cells #[.bool false] 4 (0,0))=b at*;have g2:=Zb b (.cells #[.string (ba line),.bool true] 78 (0,0));have X:=Bx.newT b (.string (ba line)) (.bool true) 78;rw[e2]at X;exact⟨ag (ag g0 g1) g2,(F.on (p:=w.heap.size+9) (On.of g1) (by omega)).on (p:=w.heap.size+9) (On.of g2) (by omega),K.on (p:=w.heap.size+9) (On.of g2) (by omega),X⟩
namespace Dk
theorem o8(h:w1 line=bK):VW line=if w3 line=true/\w3 (w2 line)=true/\Ws (w1 (w2 (w2 line)))/\w3 (w2 (w2 line))=true then some (.put (w1 (w2 line)) (w2 (w2 (w2 line))) (val (w1 (w2 (w2 line))))) else none:=by unfold VW;simp only;exact ax h
theorem mF(h:w1 line=aT):VW line=if w3 line=true/\¬w3 (w2 line)=true then some (.drop (w1 (w2 line))) else none:=by unfold VW;simp only;rw[ab (by show ¬(w1 line=bK);rw[h];decide)];exact ax h
theorem pa(h:w1 line=YN):VW line=if w3 line=true/\¬w3 (w2 line)=true then some (.get (w1 (w2 line))) else none:=by unfold VW;simp only;rw[ab (by show ¬(w1 line=bK);rw[h];decide)];rw[ab (by show ¬(w1 line=aT);rw[h];decide)];exact ax h
theorem kZ(h:w1 line=aI):VW line=if w3 line=true/\Ws (w1 (w2 line))/\¬w3 (w2 line)=true then some (.gx (val (w1 (w2 line)))) else none:=by unfold VW;simp only;rw[ab (by show ¬(w1 line=bK);rw[h];decide)];rw[ab (by show ¬(w1 line=aT);rw[h];decide)];rw[ab (by show ¬(w1 line=YN);rw[h];decide)];exact ax h
theorem k6(h:w1 line=aK):VW line=if w3 line=true/\w3 (w2 line)=true/\Ws (w1 (w2 (w2 line)))/\w3 (w2 (w2 line))=true/\Ws (w1 (w2 (w2 (w2 line))))/\¬w3 (w2 (w2 (w2 line)))=true then some (.range (w1 (w2 line)) (val (w1 (w2 (w2 line)))) (val (w1 (w2 (w2 (w2 line)))))) else none:=by unfold VW;simp only;rw[ab (by show ¬(w1 line=bK);rw[h];decide)];rw[ab (by show ¬(w1 line=aT);rw[h];decide)];rw[ab (by show ¬(w1 line=YN);rw[h];decide)];rw[ab (by show ¬(w1 line=aI);rw[h];decide)];exact ax h
theorem iZ(h:w1 line=au):VW line=if w3 line=true then none else some .compact:=by unfold VW;simp only;rw[ab (by show ¬(w1 line=bK);rw[h];decide)];rw[ab (by show ¬(w1 line=aT);rw[h];decide)];rw[ab (by show ¬(w1 line=YN);rw[h];decide)];rw[ab (by show ¬(w1 line=aI);rw[h];decide)];rw[ab (by show ¬(w1 line=aK);rw[h];decide)];exact ax h
theorem mG(h:w1 line=Yz):VW line=if w3 line=true then none else some .list:=by unfold VW;simp only;rw[ab (by show ¬(w1 line=bK);rw[h];decide)];rw[ab (by show ¬(w1 line=aT);rw[h];decide)];rw[ab (by show ¬(w1 line=YN);rw[h];decide)];rw[ab (by show ¬(w1 line=aI);rw[h];decide)];rw[ab (by show ¬(w1 line=aK);rw[h];decide)];rw[ab (by show ¬(w1 line=au);rw[h];decide)];exact ax h
theorem mH(h:w1 line=YA):VW line=if w3 line=true then none else some .size:=by unfold VW;simp only;rw[ab (by show ¬(w1 line=bK);rw[h];decide)];rw[ab (by show ¬(w1 line=aT);rw[h];decide)];rw[ab (by show ¬(w1 line=YN);rw[h];decide)];rw[ab (by show ¬(w1 line=aI);rw[h];decide)];rw[ab (by show ¬(w1 line=aK);rw[h];decide)];rw[ab (by show ¬(w1 line=au);rw[h];decide)];rw[ab (by show ¬(w1 line=Yz);rw[h];decide)];exact ax h
theorem mI(h:w1 line=Yi):VW line=if w3 line=true then none else some .save:=by unfold VW;simp only;rw[ab (by show ¬(w1 line=bK);rw[h];decide)];rw[ab (by show ¬(w1 line=aT);rw[h];decide)];rw[ab (by show ¬(w1 line=YN);rw[h];decide)];rw[ab (by show ¬(w1 line=aI);rw[h];decide)];rw[ab (by show ¬(w1 line=aK);rw[h];decide)];rw[ab (by show ¬(w1 line=au);rw[h];decide)];rw[ab (by show ¬(w1 line=Yz);rw[h];decide)];rw[ab (by show ¬(w1 line=YA);rw[h];decide)];exact ax h
theorem mJ(h0:w1 line≠bK)(h1:w1 line≠aT)(h2:w1 line≠YN)(h3:w1 line≠aI)(h4:w1 line≠aK)(h5:w1 line≠au)(h6:w1 line≠Yz)(h7:w1 line≠YA)(h8:w1 line≠Yi):VW line=none:=by unfold VW;simp only;rw[ab (show ¬((Wr 32 line).1=bK) from h0)];rw[ab (show ¬((Wr 32 line).1=aT) from h1)];rw[ab (show ¬((Wr 32 line).1=YN) from h2)];rw[ab (show ¬((Wr 32 line).1=aI) from h3)];rw[ab (show ¬((Wr 32 line).1=aK) from h4)];rw[ab (show ¬((Wr 32 line).1=au) from h5)];rw[ab (show ¬((Wr 32 line).1=Yz) from h6)];rw[ab (show ¬((Wr 32 line).1=YA) from h7)];exact ab h8
end Dk
theorem QF(line:List UInt8)(w:World)(hl:line.length<=100000)(hM:Mx w)(hv:w1 line=bK) :
 Calls prog 31 #[.string (ba line)] w λe w'=>ZG line w e w':=by
 have hN:Hid (VW line=none->∀w',ae w w'->ZG line w (.returned (.tuple #[WI oz,.bool false])) w'):=λh9 w' h8=>qw h9 h8
 have hY:Hid (∀o,VW line=some o->∀w',ae w w'->ZG line w (.returned (.tuple #[WI (iY (some o)),.bool true])) w'):=λo h9 w' h8=>tq h9 h8
 have HO:Hid (VW line=_):=o8 hv;have hb:ba (w1 line)=⟨#[112,117,116]⟩:=by rw[hv];rfl
 generalize ZG line w=Q at*;have S:=qx line w;unfold W8 at S;go_enter_defers func31,ntmps31
 go_wp2_with fail
 generalize (((w.alloc (.cells #[.string ⟨#[]⟩,.string ⟨#[]⟩,.string ⟨#[]⟩,.int .i64 0,.int .i64 0] 59 (0,0))).alloc (.cells #[.bool false] 4 (0,0))).alloc (.cells #[.string (ba line),.bool true] 78 (0,0)))=u at*;refine mo (kY line _ u S.X hl (hM.below S.b)) ?_;rintro u1 ⟨O,X⟩;have S1:=S.on O X
 obtain⟨c9,k0⟩:∃c,u1.cell? ⟨w.heap.size,0,none⟩=some c:=⟨_,S1.F.c 0 (by omega)⟩
 have z0:=S1.F.z 0 (by omega);have S2:=S1.put 0 (by omega) (.string (ba (w1 line)));have k1:(u1.setCell ⟨w.heap.size,0,none⟩ (.string (ba (w1 line)))).cell? ⟨w.heap.size,0,none⟩=some (.string (ba (w1 line))):=cS _ _ _ k0;clear S S1 O X;rw[hb]at k1 S2 |-
 clear hb hv;have L1:=nt (aA line).2 hl;have L2:=nt (aA (w2 line)).2 L1;have L3:=nt (aA (w2 (w2 line))).2 L2;have L4:=nt (aA (w2 (w2 (w2 line)))).2 L3;go_wp2_with fail
 generalize u1.setCell _ _=v0 at*;clear k0 k1 z0
 cases t0:w3 line with
 |false =>
  rw[t0]at S2;have hq:=hN.out (by rw[HO.out,ab (by simp[t0])]);refine mq (vJ _ _ v0 S2.X) λu9 O=>?_
  have T:=S2.gP O;clear S2 hN hY HO;go_wp2_with fail
  exact ZP T rfl rfl hq
 |true =>
  rw[t0]at S2;refine mo (kY (w2 line) _ v0 S2.X L1 (hM.below S2.b)) ?_;rintro a0 ⟨O,X⟩;have gQ:=S2.on O X
  obtain⟨c9,k0⟩:∃c,a0.cell? ⟨w.heap.size,1,none⟩=some c:=⟨_,gQ.F.c 1 (by omega)⟩
  have z0:=gQ.F.z 1 (by omega);have S3:=gQ.put 1 (by omega) (.string (ba (w1 (w2 line))));clear S2 gQ O X;go_wp2_with fail
  generalize a0.setCell _ _=v1 at*;clear k0 z0
  cases t1:w3 (w2 line) with
  |false =>
   rw[t1]at S3;have hq:=hN.out (by rw[HO.out,ab (by simp[t0,t1])]);refine mq (vN _ _ v1 S3.X) λu9 O=>?_
   have T:=S3.gP O;clear S3 hN hY HO;go_wp2_with fail
   exact ZP T rfl rfl hq
  |true =>
   rw[t1]at S3;by_cases n1:Ws (w1 (w2 (w2 line)))
   case neg =>
    have hq:=hN.out (by rw[HO.out,ab (by simp[t0,t1,n1])]);refine mq (vM (w2 (w2 line)) _ v1 S3.X L2 (hM.below S3.b) n1) λu9 O=>?_
    have T:=S3.gP O;clear S3 hN hY HO;go_wp2_with fail
    exact ZP T rfl rfl hq
   refine mo (vL (w2 (w2 line)) _ v1 S3.X L2 (hM.below S3.b) n1) ?_;rintro a1 ⟨O,X⟩;have mK:=S3.on O X
   obtain⟨c9,k0⟩:∃c,a1.cell? ⟨w.heap.size,4,none⟩=some c:=⟨_,mK.F.c 4 (by omega)⟩
   have z0:=mK.F.z 4 (by omega);have S4:=mK.put 4 (by omega) (.int .i64 (Dk.val (w1 (w2 (w2 line))):Nat));clear S3 mK O X;go_wp2_with fail
   generalize a1.setCell _ _=v2 at*;clear k0 z0
   cases t2:w3 (w2 (w2 line)) with
   |false =>
    rw[t2]at S4;have hq:=hN.out (by rw[HO.out,ab (by simp[t0,t1,n1,t2])]);refine mq (Qv _ _ v2 S4.X) λu9 O=>?_
    have T:=S4.gP O;clear S4 hN hY HO;go_wp2_with fail
    exact ZP T rfl rfl hq
   |true =>
    rw[t2]at S4;refine mo (Qu _ _ v2 S4.X) ?_;rintro a2 ⟨O,X⟩;have mL:=S4.on O X
    obtain⟨c9,k0⟩:∃c,a2.cell? ⟨w.heap.size,2,none⟩=some c:=⟨_,mL.F.c 2 (by omega)⟩
    have z0:=mL.F.z 2 (by omega);have S5:=mL.put 2 (by omega) (.string (ba (w2 (w2 (w2 line)))));clear S4 mL O X;go_wp2_with fail
    generalize a2.setCell _ _=v3 at*;clear k0 z0;have hq:=hY.out _ (by rw[HO.out,ax (by simp[t0,t1,n1,t2])]);refine mo (tp _ _ v3 S5.X) ?_;rintro u9 rfl;have y0:u9.cell? ⟨w.heap.size,0,none⟩=some (.string _):=S5.F.c 0 (by omega);have z0:=S5.F.z 0 (by omega);have y1:u9.cell? ⟨w.heap.size,1,none⟩=some (.string (ba (w1 (w2 line)))):=S5.F.c 1 (by omega);have z1:=S5.F.z 1 (by omega);have y2:u9.cell? ⟨w.heap.size,2,none⟩=some (.string (ba (w2 (w2 (w2 line))))):=S5.F.c 2 (by omega);have z2:=S5.F.z 2 (by omega);have y3:u9.cell? ⟨w.heap.size,3,none⟩=some (.int .i64 0):=S5.F.c 3 (by omega);have z3:=S5.F.z 3 (by omega);have y4:u9.cell? ⟨w.heap.size,4,none⟩=some (.int .i64 (Dk.val (w1 (w2 (w2 line))):Nat)):=S5.F.c 4 (by omega);have z4:=S5.F.z 4 (by omega);have kc:=S5.K.1;have kz:=S5.K.2;have D:=S5.set true;clear S5 hN hY HO;go_wp2_with fail
    rw[Zd y0,Zd y1,Zd y2,Zd y3,Zd y4];exact qv D rfl rfl hq
theorem QG(line:List UInt8)(w:World)(hl:line.length<=100000)(hM:Mx w)(hv:w1 line=aK) :
 Calls prog 31 #[.string (ba line)] w λe w'=>ZG line w e w':=by
 have hN:Hid (VW line=none->∀w',ae w w'->ZG line w (.returned (.tuple #[WI oz,.bool false])) w'):=λh9 w' h8=>qw h9 h8
 have hY:Hid (∀o,VW line=some o->∀w',ae w w'->ZG line w (.returned (.tuple #[WI (iY (some o)),.bool true])) w'):=λo h9 w' h8=>tq h9 h8
 have HO:Hid (VW line=_):=Dk.k6 hv;have hb:ba (w1 line)=⟨#[114,97,110,103,101]⟩:=by rw[hv];rfl
 generalize ZG line w=Q at*;have S:=qx line w;unfold W8 at S;go_enter_defers func31,ntmps31
 go_wp2_with fail
 generalize (((w.alloc (.cells #[.string ⟨#[]⟩,.string ⟨#[]⟩,.string ⟨#[]⟩,.int .i64 0,.int .i64 0] 59 (0,0))).alloc (.cells #[.bool false] 4 (0,0))).alloc (.cells #[.string (ba line),.bool true] 78 (0,0)))=u at*;refine mo (kY line _ u S.X hl (hM.below S.b)) ?_;rintro u1 ⟨O,X⟩;have S1:=S.on O X
 obtain⟨c9,k0⟩:∃c,u1.cell? ⟨w.heap.size,0,none⟩=some c:=⟨_,S1.F.c 0 (by omega)⟩
 have z0:=S1.F.z 0 (by omega);have S2:=S1.put 0 (by omega) (.string (ba (w1 line)));have k1:(u1.setCell ⟨w.heap.size,0,none⟩ (.string (ba (w1 line)))).cell? ⟨w.heap.size,0,none⟩=some (.string (ba (w1 line))):=cS _ _ _ k0;clear S S1 O X;rw[hb]at k1 S2 |-
 clear hb hv;have L1:=nt (aA line).2 hl;have L2:=nt (aA (w2 line)).2 L1;have L3:=nt (aA (w2 (w2 line))).2 L2;have L4:=nt (aA (w2 (w2 (w2 line)))).2 L3;go_wp2_with fail
 generalize u1.setCell _ _=v0 at*;clear k0 k1 z0
 cases t0:w3 line with
 |false =>
  rw[t0]at S2;have hq:=hN.out (by rw[HO.out,ab (by simp[t0])]);refine mq (vJ _ _ v0 S2.X) λu9 O=>?_
  have T:=S2.gP O;clear S2 hN hY HO;go_wp2_with fail
  exact ZP T rfl rfl hq
 |true =>
  rw[t0]at S2;refine mo (kY (w2 line) _ v0 S2.X L1 (hM.below S2.b)) ?_;rintro a0 ⟨O,X⟩;have gQ:=S2.on O X
  obtain⟨c9,k0⟩:∃c,a0.cell? ⟨w.heap.size,1,none⟩=some c:=⟨_,gQ.F.c 1 (by omega)⟩
  have z0:=gQ.F.z 1 (by omega);have S3:=gQ.put 1 (by omega) (.string (ba (w1 (w2 line))));clear S2 gQ O X;go_wp2_with fail
  generalize a0.setCell _ _=v1 at*;clear k0 z0
  cases t1:w3 (w2 line) with
  |false =>
   rw[t1]at S3;have hq:=hN.out (by rw[HO.out,ab (by simp[t0,t1])]);refine mq (vN _ _ v1 S3.X) λu9 O=>?_
   have T:=S3.gP O;clear S3 hN hY HO;go_wp2_with fail
   exact ZP T rfl rfl hq
  |true =>
   rw[t1]at S3;by_cases n1:Ws (w1 (w2 (w2 line)))
   case neg =>
    have hq:=hN.out (by rw[HO.out,ab (by simp[t0,t1,n1])]);refine mq (vM (w2 (w2 line)) _ v1 S3.X L2 (hM.below S3.b) n1) λu9 O=>?_
    have T:=S3.gP O;clear S3 hN hY HO;go_wp2_with fail
    exact ZP T rfl rfl hq
   refine mo (vL (w2 (w2 line)) _ v1 S3.X L2 (hM.below S3.b) n1) ?_;rintro a1 ⟨O,X⟩;have mK:=S3.on O X
   obtain⟨c9,k0⟩:∃c,a1.cell? ⟨w.heap.size,3,none⟩=some c:=⟨_,mK.F.c 3 (by omega)⟩
   have z0:=mK.F.z 3 (by omega);have S4:=mK.put 3 (by omega) (.int .i64 (Dk.val (w1 (w2 (w2 line))):Nat));clear S3 mK O X;go_wp2_with fail
   generalize a1.setCell _ _=v2 at*;clear k0 z0
   cases t2:w3 (w2 (w2 line)) with
   |false =>
    rw[t2]at S4;have hq:=hN.out (by rw[HO.out,ab (by simp[t0,t1,n1,t2])]);refine mq (vN _ _ v2 S4.X) λu9 O=>?_
    have T:=S4.gP O;clear S4 hN hY HO;go_wp2_with fail
    exact ZP T rfl rfl hq
   |true =>
    rw[t2]at S4;by_cases n2:Ws (w1 (w2 (w2 (w2 line))))
    case neg =>
     have hq:=hN.out (by rw[HO.out,ab (by simp[t0,t1,n1,t2,n2])]);refine mq (vM (w2 (w2 (w2 line))) _ v2 S4.X L3 (hM.below S4.b) n2) λu9 O=>?_
     have T:=S4.gP O;clear S4 hN hY HO;go_wp2_with fail
     exact ZP T rfl rfl hq
    refine mo (vL (w2 (w2 (w2 line))) _ v2 S4.X L3 (hM.below S4.b) n2) ?_;rintro a2 ⟨O,X⟩;have mL:=S4.on O X
    obtain⟨c9,k0⟩:∃c,a2.cell? ⟨w.heap.size,4,none⟩=some c:=⟨_,mL.F.c 4 (by omega)⟩
    have z0:=mL.F.z 4 (by omega);have S5:=mL.put 4 (by omega) (.int .i64 (Dk.val (w1 (w2 (w2 (w2 line)))):Nat));clear S4 mL O X;go_wp2_with fail
    generalize a2.setCell _ _=v3 at*;clear k0 z0
    cases te:w3 (w2 (w2 (w2 line))) with
    |true =>
     rw[te]at S5;have hq:=hN.out (by rw[HO.out,ab (by simp[t0,t1,n1,t2,n2,te])]);refine mq (vK _ _ v3 S5.X) λu9 O=>?_
     have T:=S5.gP O;clear S5 hN hY HO;go_wp2_with fail
     exact ZP T rfl rfl hq
    |false =>
     rw[te]at S5;have hq:=hY.out _ (by rw[HO.out,ax (by simp[t0,t1,n1,t2,n2,te])]);refine mo (tp _ _ v3 S5.X) ?_;rintro u9 rfl;have y0:u9.cell? ⟨w.heap.size,0,none⟩=some (.string _):=S5.F.c 0 (by omega);have z0:=S5.F.z 0 (by omega);have y1:u9.cell? ⟨w.heap.size,1,none⟩=some (.string (ba (w1 (w2 line)))):=S5.F.c 1 (by omega);have z1:=S5.F.z 1 (by omega);have y2:u9.cell? ⟨w.heap.size,2,none⟩=some (.string ⟨#[]⟩):=S5.F.c 2 (by omega);have z2:=S5.F.z 2 (by omega);have y3:u9.cell? ⟨w.heap.size,3,none⟩=some (.int .i64 (Dk.val (w1 (w2 (w2 line))):Nat)):=S5.F.c 3 (by omega);have z3:=S5.F.z 3 (by omega);have y4:u9.cell? ⟨w.heap.size,4,none⟩=some (.int .i64 (Dk.val (w1 (w2 (w2 (w2 line)))):Nat)):=S5.F.c 4 (by omega);have z4:=S5.F.z 4 (by omega);have kc:=S5.K.1;have kz:=S5.K.2;have D:=S5.set true;clear S5 hN hY HO;go_wp2_with fail
     rw[Zd y0,Zd y1,Zd y2,Zd y3,Zd y4];exact qv D rfl rfl hq
open Dk (ba w1 w2 w3)
theorem Gf(line:List UInt8)(w:World)(hl:line.length<=100000)(hM:Mx w)(hv:w1 line=aT\/w1 line=YN) :
 Calls prog 31 #[.string (ba line)] w λe w'=>ZG line w e w':=by
 have hN:Hid (VW line=none->∀w',ae w w'->ZG line w (.returned (.tuple #[WI oz,.bool false])) w'):=λh9 w' h8=>qw h9 h8
 have hY:Hid (∀o,VW line=some o->∀w',ae w w'->ZG line w (.returned (.tuple #[WI (iY (some o)),.bool true])) w'):=λo h9 w' h8=>tq h9 h8
 rcases hv with hv|hv
 all_goals
  first|(have HO:Hid (VW line=_):=mF hv;have hb:ba (w1 line)=⟨#[100,114,111,112]⟩:=by rw[hv];rfl)|(have HO:Hid (VW line=_):=Dk.pa hv;have hb:ba (w1 line)=⟨#[103,101,116]⟩:=by rw[hv];rfl)
  generalize ZG line w=Q at*;have S:=qx line w;unfold W8 at S;go_enter_defers func31,ntmps31
  go_wp2_with fail
  generalize (((w.alloc (.cells #[.string ⟨#[]⟩,.string ⟨#[]⟩,.string ⟨#[]⟩,.int .i64 0,.int .i64 0] 59 (0,0))).alloc (.cells #[.bool false] 4 (0,0))).alloc (.cells #[.string (ba line),.bool true] 78 (0,0)))=u at*;refine mo (kY line _ u S.X hl (hM.below S.b)) ?_;rintro u1 ⟨O,X⟩;have S1:=S.on O X
  obtain⟨c9,k0⟩:∃c,u1.cell? ⟨w.heap.size,0,none⟩=some c:=⟨_,S1.F.c 0 (by omega)⟩
  have z0:=S1.F.z 0 (by omega);have S2:=S1.put 0 (by omega) (.string (ba (w1 line)));have k1:(u1.setCell ⟨w.heap.size,0,none⟩ (.string (ba (w1 line)))).cell? ⟨w.heap.size,0,none⟩=some (.string (ba (w1 line))):=cS _ _ _ k0;clear S S1 O X;rw[hb]at k1 S2 |-
  clear hb hv;have L1:=nt (aA line).2 hl;have L2:=nt (aA (w2 line)).2 L1;go_wp2_with fail
  generalize u1.setCell _ _=v0 at*;clear k0 k1 z0
  cases t0:w3 line with
  |false =>
   rw[t0]at S2;have hq:=hN.out (by rw[HO.out,ab (by simp[t0])]);refine mq (vJ _ _ v0 S2.X) λu9 O=>?_
   have T:=S2.gP O;clear S2 hN hY HO;go_wp2_with fail
   exact ZP T rfl rfl hq
  |true =>
   rw[t0]at S2;refine mo (kY (w2 line) _ v0 S2.X L1 (hM.below S2.b)) ?_;rintro a0 ⟨O,X⟩;have gQ:=S2.on O X
   obtain⟨c9,k0⟩:∃c,a0.cell? ⟨w.heap.size,1,none⟩=some c:=⟨_,gQ.F.c 1 (by omega)⟩
   have z0:=gQ.F.z 1 (by omega);have S3:=gQ.put 1 (by omega) (.string (ba (w1 (w2 line))));clear S2 gQ O X;go_wp2_with fail
   generalize a0.setCell _ _=v1 at*;clear k0 z0
   cases te:w3 (w2 line) with
   |true =>
    rw[te]at S3;have hq:=hN.out (by rw[HO.out,ab (by simp[t0,te])]);refine mq (vK _ _ v1 S3.X) λu9 O=>?_
    have T:=S3.gP O;clear S3 hN hY HO;go_wp2_with fail
    exact ZP T rfl rfl hq
   |false =>
    rw[te]at S3;have hq:=hY.out _ (by rw[HO.out,ax (by simp[t0,te])]);refine mo (tp _ _ v1 S3.X) ?_;rintro u9 rfl;have y0:u9.cell? ⟨w.heap.size,0,none⟩=some (.string _):=S3.F.c 0 (by omega);have z0:=S3.F.z 0 (by omega);have y1:u9.cell? ⟨w.heap.size,1,none⟩=some (.string (ba (w1 (w2 line)))):=S3.F.c 1 (by omega);have z1:=S3.F.z 1 (by omega);have y2:u9.cell? ⟨w.heap.size,2,none⟩=some (.string ⟨#[]⟩):=S3.F.c 2 (by omega);have z2:=S3.F.z 2 (by omega);have y3:u9.cell? ⟨w.heap.size,3,none⟩=some (.int .i64 0):=S3.F.c 3 (by omega);have z3:=S3.F.z 3 (by omega);have y4:u9.cell? ⟨w.heap.size,4,none⟩=some (.int .i64 0):=S3.F.c 4 (by omega);have z4:=S3.F.z 4 (by omega);have kc:=S3.K.1;have kz:=S3.K.2;have D:=S3.set true;clear S3 hN hY HO;go_wp2_with fail
    rw[Zd y0,Zd y1,Zd y2,Zd y3,Zd y4];exact qv D rfl rfl hq
theorem QH(line:List UInt8)(w:World)(hl:line.length<=100000)(hM:Mx w)(hv:w1 line=aI) :
 Calls prog 31 #[.string (ba line)] w λe w'=>ZG line w e w':=by
 have hN:Hid (VW line=none->∀w',ae w w'->ZG line w (.returned (.tuple #[WI oz,.bool false])) w'):=λh9 w' h8=>qw h9 h8
 have hY:Hid (∀o,VW line=some o->∀w',ae w w'->ZG line w (.returned (.tuple #[WI (iY (some o)),.bool true])) w'):=λo h9 w' h8=>tq h9 h8
 have HO:Hid (VW line=_):=kZ hv;have hb:ba (w1 line)=⟨#[116,114,97,105,110]⟩:=by rw[hv];rfl
 generalize ZG line w=Q at*;have S:=qx line w;unfold W8 at S;go_enter_defers func31,ntmps31
 go_wp2_with fail
 generalize (((w.alloc (.cells #[.string ⟨#[]⟩,.string ⟨#[]⟩,.string ⟨#[]⟩,.int .i64 0,.int .i64 0] 59 (0,0))).alloc (.cells #[.bool false] 4 (0,0))).alloc (.cells #[.string (ba line),.bool true] 78 (0,0)))=u at*;refine mo (kY line _ u S.X hl (hM.below S.b)) ?_;rintro u1 ⟨O,X⟩;have S1:=S.on O X
 obtain⟨c9,k0⟩:∃c,u1.cell? ⟨w.heap.size,0,none⟩=some c:=⟨_,S1.F.c 0 (by omega)⟩
 have z0:=S1.F.z 0 (by omega);have S2:=S1.put 0 (by omega) (.string (ba (w1 line)));have k1:(u1.setCell ⟨w.heap.size,0,none⟩ (.string (ba (w1 line)))).cell? ⟨w.heap.size,0,none⟩=some (.string (ba (w1 line))):=cS _ _ _ k0;clear S S1 O X;rw[hb]at k1 S2 |-
 clear hb hv;have L1:=nt (aA line).2 hl;have L2:=nt (aA (w2 line)).2 L1;go_wp2_with fail
 generalize u1.setCell _ _=v0 at*;clear k0 k1 z0
 cases t0:w3 line with
 |false =>
  rw[t0]at S2;have hq:=hN.out (by rw[HO.out,ab (by simp[t0])]);refine mq (vN _ _ v0 S2.X) λu9 O=>?_
  have T:=S2.gP O;clear S2 hN hY HO;go_wp2_with fail
  exact ZP T rfl rfl hq
 |true =>
  rw[t0]at S2;by_cases n0:Ws (w1 (w2 line))
  case neg =>
   have hq:=hN.out (by rw[HO.out,ab (by simp[t0,n0])]);refine mq (vM (w2 line) _ v0 S2.X L1 (hM.below S2.b) n0) λu9 O=>?_
   have T:=S2.gP O;clear S2 hN hY HO;go_wp2_with fail
   exact ZP T rfl rfl hq
  refine mo (vL (w2 line) _ v0 S2.X L1 (hM.below S2.b) n0) ?_;rintro a0 ⟨O,X⟩;have gQ:=S2.on O X
  obtain⟨c9,k0⟩:∃c,a0.cell? ⟨w.heap.size,4,none⟩=some c:=⟨_,gQ.F.c 4 (by omega)⟩
  have z0:=gQ.F.z 4 (by omega);have S3:=gQ.put 4 (by omega) (.int .i64 (Dk.val (w1 (w2 line)):Nat));clear S2 gQ O X;go_wp2_with fail
  generalize a0.setCell _ _=v1 at*;clear k0 z0
  cases te:w3 (w2 line) with
  |true =>
   rw[te]at S3;have hq:=hN.out (by rw[HO.out,ab (by simp[t0,n0,te])]);refine mq (vK _ _ v1 S3.X) λu9 O=>?_
   have T:=S3.gP O;clear S3 hN hY HO;go_wp2_with fail
   exact ZP T rfl rfl hq
  |false =>
   rw[te]at S3;have hq:=hY.out _ (by rw[HO.out,ax (by simp[t0,n0,te])]);refine mo (tp _ _ v1 S3.X) ?_;rintro u9 rfl;have y0:u9.cell? ⟨w.heap.size,0,none⟩=some (.string _):=S3.F.c 0 (by omega);have z0:=S3.F.z 0 (by omega);have y1:u9.cell? ⟨w.heap.size,1,none⟩=some (.string ⟨#[]⟩):=S3.F.c 1 (by omega);have z1:=S3.F.z 1 (by omega);have y2:u9.cell? ⟨w.heap.size,2,none⟩=some (.string ⟨#[]⟩):=S3.F.c 2 (by omega);have z2:=S3.F.z 2 (by omega);have y3:u9.cell? ⟨w.heap.size,3,none⟩=some (.int .i64 0):=S3.F.c 3 (by omega);have z3:=S3.F.z 3 (by omega);have y4:u9.cell? ⟨w.heap.size,4,none⟩=some (.int .i64 (Dk.val (w1 (w2 line)):Nat)):=S3.F.c 4 (by omega);have z4:=S3.F.z 4 (by omega);have kc:=S3.K.1;have kz:=S3.K.2;have D:=S3.set true;clear S3 hN hY HO;go_wp2_with fail
   rw[Zd y0,Zd y1,Zd y2,Zd y3,Zd y4];exact qv D rfl rfl hq
open Dk (ba w1 w2 w3)
theorem ZK(line:List UInt8)(w:World)(hl:line.length<=100000)(hM:Mx w)(hv:w1 line=au\/w1 line=Yz\/w1 line=YA\/w1 line=Yi) :
 Calls prog 31 #[.string (ba line)] w λe w'=>ZG line w e w':=by
 have hN:Hid (VW line=none->∀w',ae w w'->ZG line w (.returned (.tuple #[WI oz,.bool false])) w'):=λh9 w' h8=>qw h9 h8
 have hY:Hid (∀o,VW line=some o->∀w',ae w w'->ZG line w (.returned (.tuple #[WI (iY (some o)),.bool true])) w'):=λo h9 w' h8=>tq h9 h8
 rcases hv with hv|hv|hv|hv
 all_goals
  first|(have HO:Hid (VW line=_):=iZ hv;have hb:ba (w1 line)=⟨#[99,111,109,112,97,99,116]⟩:=by rw[hv];rfl)|(have HO:Hid (VW line=_):=mG hv;have hb:ba (w1 line)=⟨#[108,105,115,116]⟩:=by rw[hv];rfl)|(have HO:Hid (VW line=_):=Dk.mH hv;have hb:ba (w1 line)=⟨#[115,105,122,101]⟩:=by rw[hv];rfl)|(have HO:Hid (VW line=_):=Dk.mI hv;have hb:ba (w1 line)=⟨#[115,97,118,101]⟩:=by rw[hv];rfl)
  generalize ZG line w=Q at*;have S:=qx line w;unfold W8 at S;go_enter_defers func31,ntmps31
  go_wp2_with fail
  generalize (((w.alloc (.cells #[.string ⟨#[]⟩,.string ⟨#[]⟩,.string ⟨#[]⟩,.int .i64 0,.int .i64 0] 59 (0,0))).alloc (.cells #[.bool false] 4 (0,0))).alloc (.cells #[.string (ba line),.bool true] 78 (0,0)))=u at*;refine mo (kY line _ u S.X hl (hM.below S.b)) ?_;rintro u1 ⟨O,X⟩;have S1:=S.on O X
  obtain⟨c9,k0⟩:∃c,u1.cell? ⟨w.heap.size,0,none⟩=some c:=⟨_,S1.F.c 0 (by omega)⟩
  have z0:=S1.F.z 0 (by omega);have S2:=S1.put 0 (by omega) (.string (ba (w1 line)));have k1:(u1.setCell ⟨w.heap.size,0,none⟩ (.string (ba (w1 line)))).cell? ⟨w.heap.size,0,none⟩=some (.string (ba (w1 line))):=cS _ _ _ k0;clear S S1 O X;rw[hb]at k1 S2 |-
  clear hb hv;have L1:=nt (aA line).2 hl;go_wp2_with fail
  generalize u1.setCell _ _=v0 at*;clear k0 k1 z0
  cases te:w3 line with
  |true =>
   rw[te]at S2;have hq:=hN.out (by rw[HO.out,ax te]);refine mq (vK _ _ v0 S2.X) λu9 O=>?_
   have T:=S2.gP O;clear S2 hN hY HO;go_wp2_with fail
   exact ZP T rfl rfl hq
  |false =>
   rw[te]at S2;have hq:=hY.out _ (by rw[HO.out,ab (by simp[te])]);refine mo (tp _ _ v0 S2.X) ?_;rintro u9 rfl;have y0:u9.cell? ⟨w.heap.size,0,none⟩=some (.string _):=S2.F.c 0 (by omega);have z0:=S2.F.z 0 (by omega);have y1:u9.cell? ⟨w.heap.size,1,none⟩=some (.string ⟨#[]⟩):=S2.F.c 1 (by omega);have z1:=S2.F.z 1 (by omega);have y2:u9.cell? ⟨w.heap.size,2,none⟩=some (.string ⟨#[]⟩):=S2.F.c 2 (by omega);have z2:=S2.F.z 2 (by omega);have y3:u9.cell? ⟨w.heap.size,3,none⟩=some (.int .i64 0):=S2.F.c 3 (by omega);have z3:=S2.F.z 3 (by omega);have y4:u9.cell? ⟨w.heap.size,4,none⟩=some (.int .i64 0):=S2.F.c 4 (by omega);have z4:=S2.F.z 4 (by omega);have kc:=S2.K.1;have kz:=S2.K.2;have D:=S2.set true;clear S2 hN hY HO;go_wp2_with fail
   rw[Zd y0,Zd y1,Zd y2,Zd y3,Zd y4];exact qv D rfl rfl hq
theorem QI(line:List UInt8)(w:World)(hl:line.length<=100000)(hM:Mx w)(h0:w1 line≠bK)(h1:w1 line≠aT)(h2:w1 line≠YN)(h3:w1 line≠aI)(h4:w1 line≠aK)(h5:w1 line≠au)(h6:w1 line≠Yz)(h7:w1 line≠YA)(h8:w1 line≠Yi) :
 Calls prog 31 #[.string (ba line)] w λe w'=>ZG line w e w':=by
 have hq:∀w',ae w w'->ZG line w (.returned (.tuple #[WI oz,.bool false])) w':=λw' QJ=>qw (mJ h0 h1 h2 h3 h4 h5 h6 h7 h8) QJ
 generalize ZG line w=Q at*;have S:=qx line w;unfold W8 at S;have e0:((ba (w1 line)).toList == [112,117,116])=false:=Wo h0;have e1:((ba (w1 line)).toList == [100,114,111,112])=false:=Wo h1;have e2:((ba (w1 line)).toList == [103,101,116])=false:=Wo h2;have e3:((ba (w1 line)).toList == [116,114,97,105,110])=false:=Wo h3;have e4:((ba (w1 line)).toList == [114,97,110,103,101])=false:=Wo h4;have e5:((ba (w1 line)).toList == [99,111,109,112,97,99,116])=false:=Wo h5;have e6:((ba (w1 line)).toList == [108,105,115,116])=false:=Wo h6;have e7:((ba (w1 line)).toList == [115,105,122,101])=false:=Wo h7;have e8:((ba (w1 line)).toList == [115,97,118,101])=false:=Wo h8;clear h0 h1 h2 h3 h4 h5 h6 h7 h8;go_enter_defers func31,ntmps31
 go_wp2_with fail
 generalize (((w.alloc (.cells #[.string ⟨#[]⟩,.string ⟨#[]⟩,.string ⟨#[]⟩,.int .i64 0,.int .i64 0] 59 (0,0))).alloc (.cells #[.bool false] 4 (0,0))).alloc (.cells #[.string (ba line),.bool true] 78 (0,0)))=u at*;refine mo (kY line _ u S.X hl (hM.below S.b)) ?_;rintro u1 ⟨O,X⟩;have S1:=S.on O X
 obtain⟨c9,k0⟩:∃c,u1.cell? ⟨w.heap.size,0,none⟩=some c:=⟨_,S1.F.c 0 (by omega)⟩
 have z0:=S1.F.z 0 (by omega);have S2:=S1.put 0 (by omega) (.string (ba (w1 line)));have k1:(u1.setCell ⟨w.heap.size,0,none⟩ (.string (ba (w1 line)))).cell? ⟨w.heap.size,0,none⟩=some (.string (ba (w1 line))):=cS _ _ _ k0;clear S S1 O X;generalize ba (w1 line)=x at*;have D:DT w _ _ _:=DT.zero ⟨S2.b,S2.F,S2.K⟩;have F0:=S2.F.set 0 (by omega) (.string ⟨#[]⟩);have F1:=F0.set 1 (by omega) (.string ⟨#[]⟩);have F2:=F1.set 2 (by omega) (.string ⟨#[]⟩);have F3:=F2.set 3 (by omega) (.int .i64 0);have q0:=S2.F.z 0 (by omega)
 obtain⟨d1,y1⟩:∃c,(u1.setCell ⟨w.heap.size,0,none⟩ (.string x)).cell? ⟨w.heap.size,1,none⟩=some c:=⟨_,S2.F.c 1 (by omega)⟩
 obtain⟨d2,y2⟩:∃c,(u1.setCell ⟨w.heap.size,0,none⟩ (.string x)).cell? ⟨w.heap.size,2,none⟩=some c:=⟨_,S2.F.c 2 (by omega)⟩
 obtain⟨d3,y3⟩:∃c,(u1.setCell ⟨w.heap.size,0,none⟩ (.string x)).cell? ⟨w.heap.size,3,none⟩=some c:=⟨_,S2.F.c 3 (by omega)⟩
 obtain⟨d4,y4⟩:∃c,(u1.setCell ⟨w.heap.size,0,none⟩ (.string x)).cell? ⟨w.heap.size,4,none⟩=some c:=⟨_,S2.F.c 4 (by omega)⟩
 have q1:=S2.F.z 1 (by omega);have q2:=S2.F.z 2 (by omega);have q3:=S2.F.z 3 (by omega);have q4:=S2.F.z 4 (by omega);have kc:=S2.K.1;have kz:=S2.K.2;clear S2 F0 F1 F2 F3;go_wp2_with fail
 exact qv D rfl rfl hq
theorem lS(line:List UInt8)(w:World)(hl:line.length<=100000)(hM:Mx w) :
 Calls prog 31 #[.string (ba line)] w λe w'=>ZG line w e w':=by
 by_cases h0:w1 line=bK
 ·exact QF line w hl hM h0
 by_cases h1:w1 line=aT
 ·exact Gf line w hl hM (.inl h1)
 by_cases h2:w1 line=YN
 ·exact Gf line w hl hM (.inr h2)
 by_cases h3:w1 line=aI
 ·exact QH line w hl hM h3
 by_cases h4:w1 line=aK
 ·exact QG line w hl hM h4
 by_cases h5:w1 line=au
 ·exact ZK line w hl hM (.inl h5)
 by_cases h6:w1 line=Yz
 ·exact ZK line w hl hM (.inr (.inl h6))
 by_cases h7:w1 line=YA
 ·exact ZK line w hl hM (.inr (.inr (.inl h7)))
 by_cases h8:w1 line=Yi
 ·exact ZK line w hl hM (.inr (.inr (.inr h8)))
 exact QI line w hl hM h0 h1 h2 h3 h4 h5 h6 h7 h8
namespace Im
def W9(a:Ar.A)(k:Nat):B:=XV++(VB a.aa.length++aaJ tb (a.aa.take k))
def pF(a:Ar.A)(m:Nat):B:=XV++(VB a.aa.length++(aaJ tb a.aa++(VB a.files.length++aaJ kP (a.files.take m))))
theorem Af{α:Type}(enc:α->B):∀(l:List α) (k:Nat),(aaJ enc (l.take k)).length<=(aaJ enc l).length
 |[],k=>by simp[aaJ]
 |x :: l,0=>by simp[aaJ]
 |x :: l,k+1=>by
  have:=Af enc l k;simp only[aaJ,List.take_succ_cons,List.flatMap_cons,List.length_append]at this |-
  omega
theorem Gg{α:Type}(l:List α){k:Nat}(h:k<l.length):l.take (k+1)=l.take k++[l[k]]:=by rw[List.take_succ_eq_append_getElem h]
theorem Gh(h:k<a.aa.length):W9 a (k+1)=W9 a k++tb (VA a.aa k):=by
 unfold W9;rw[Gg _ h,ug,show VA a.aa k=a.aa[k] by simp[VA,h]];simp
theorem Gj(h:k<a.files.length):pF a (k+1)=pF a k++kP (Nm a.files k):=by
 unfold pF;rw[Gg _ h,ug,show Nm a.files k=a.files[k] by simp[Nm,h]];simp
theorem Gm(a:Ar.A):W9 a a.aa.length++VB a.files.length=pF a 0:=by
 unfold W9 pF;simp[aaJ]
theorem Gn(a:Ar.A):pF a a.files.length=WT a:=by unfold pF WT;rw[List.take_length]
theorem Gp(a:Ar.A)(k:Nat):(W9 a k).length<=(WT a).length:=by
 have:=Af tb a.aa k;unfold W9 WT;simp only[List.length_append];omega
theorem Gq(a:Ar.A)(k:Nat):(pF a k).length<=(WT a).length:=by
 have:=Af kP a.files k;unfold pF WT;simp only[List.length_append];omega
theorem qy(h:Z8 n):WQ n=VB n.toNat:=ax h
theorem Yj(h:Z8 n):Xr 0 (Xs n)=0:=by unfold Xr Xs;rw[ax rfl];exact ax h
theorem aaK(h:s.size<=512):Xy s=tb s:=ax h
theorem Gs(h:s.size<=512):Xr 0 (XL s)=0:=by unfold Xr XL;rw[ax rfl,ax h]
end Im
structure Kp(wr:World)(p:Nat)(v:Value)(c:Nat):Prop where
 lt:c<wr.heap.size
 np:c≠p
 nv:v.ownBlock≠some c
theorem Kp.next{v':Value}(h:Kp wr p v c)(F:WF p wr w' v v'):Kp w' p v' c/\w'.heap[c]?=wr.heap[c]? :=
 ⟨⟨nT h.lt F.sz,h.np,λe=>by
  rcases F.at_ c e with h9|h9
  ·exact h.nv h9
  ·have:=h.lt;omega⟩,F.blk c h.lt h.np h.nv⟩
theorem Bx.blk{b:Nat}(h:Bx w b x y)(hb:w'.heap[b]?=w.heap[b]?)(hz:w.heap.size<=w'.heap.size):Bx w' b x y :=
 ⟨(fZ (w:=w) (a:=⟨b,0,none⟩) hb).trans h.c0,(fZ (w:=w) (a:=⟨b,1,none⟩) hb).trans h.c1,(fB (w:=w) (a:=⟨b,0,none⟩) hb).trans h.f0,(fB (w:=w) (a:=⟨b,1,none⟩) hb).trans h.f1,nT h.lt hz⟩
theorem FB.blk{b:Nat}{f:Nat->Value}(h:FB w b f)(hb:w'.heap[b]?=w.heap[b]?):FB w' b f :=
 ⟨λi hi=>(fZ (w:=w) (a:=⟨b,i,none⟩) hb).trans (h.c i hi),λi hi=>(fB (w:=w) (a:=⟨b,i,none⟩) hb).trans (h.z i hi)⟩
structure WS(w wr:World)(B p c:Nat)(v0 v:Value)(l:List UInt8)(x y:Value):Prop where
 f:WF p w wr v0 v
 t:eC B p wr v l 0
 b:Below B w wr
 x:Bx wr c x y
 k:Kp wr p v c
theorem WS.call{B:Nat}{l':List UInt8}{e:Ending}(h:WS w wr B p c v0 v l x y)(s:kX B p wr v l' 0 e w'):e=.returned (.tuple #[])/\∃v',WS w w' B p c v0 v' l' x y/\WF p wr w' v v':=by
 obtain⟨he,G,v',T,F⟩:=s;obtain⟨K,hb⟩:=h.k.next F;exact⟨he,v',⟨h.f.trans F,T,h.b.trans G,h.x.blk hb F.sz,K⟩,F⟩
theorem WS.below{B:Nat}(h:WS w wr B p c v0 v l x y)(G:ae wr w'):WS w w' B p c v0 v l x y :=
 ⟨h.f.trans (WF.of G),h.t.below G,h.b.trans (G.mono (nL (Nat.lt_of_le_of_lt h.t.hp h.t.lt))),h.x.next G,⟨nT h.k.lt G.size,h.k.np,h.k.nv⟩⟩
theorem QK(B p:Nat)(ad af:Option Addr)(cd cf:Nat)(a:Ar.A)(w:World)(v:Value)(h:eC B p w v [] 0)(hA:∀w',Below B w w'->bo w' ad af a)(hok:aaH a)(hz:(WT a).length+1000<=140737488355328) :
 Calls prog 114 #[.pointer (some ⟨p,0,none⟩),av ad cd af cf a] w λe w'=>kX B p w v (WT a) 0 e w':=by
 have HX:=Za λw' (hb:Below B w w') k (hk:k<a.aa.length)=>(hA w' hb).ds.at hk
 have cy:=Za λw' (h9:Below B w w') k (hk:k<a.files.length)=>(hA w' h9).fs.at hk
 have HD:Hid (∀k,k<a.aa.length->W9 a (k+1)=W9 a k++Im.tb (VA a.aa k)/\(VA a.aa k).size<=512):=λk hk=>⟨Gh hk,by rw[show VA a.aa k=a.aa[k] by simp[VA,hk]];exact hok.ds _ (gM hk)⟩
 have HF:Hid (∀k,k<a.files.length->pF a (k+1)=pF a k++kP (Nm a.files k)/\aaI (Nm a.files k)):=λk hk=>⟨Gj hk,by rw[show Nm a.files k=a.files[k] by simp[Nm,hk]];exact hok.fs _ (gM hk)⟩
 have qA:Hid (∀k,(W9 a k).length+1000<=140737488355328):=λk=>by have:=Gp a k;omega
 have vQ:Hid (∀k,(pF a k).length+1000<=140737488355328):=λk=>by have:=Gq a k;omega
 have H0:Hid (XV++VB a.aa.length=W9 a 0):=by show _=_;unfold W9;simp[aaJ]
 have H1:=Za (Gm a);have H2:=Za (Gn a);have hnd:=hok.nd;have hnf:=hok.nf
 have HQ:Hid (∀w' v' ,eC B p w' v' (WT a) 0->Below B w w'->WF p w w' v v'->kX B p w v (WT a) 0 (.returned (.tuple #[])) w'):=λw' v' h1 h2 h3=>⟨rfl,h2,v',h1,h3⟩
 generalize kX B p w v (WT a) 0=Q at*;generalize WT a=IB at*;generalize W9 a=pd at*;generalize pF a=pf at*;have hB:=nL (Nat.lt_of_le_of_lt h.hp h.lt);have hv:v.ownBlock≠some w.heap.size:=λe=>by have:=(h.own.lt _ e).2;omega
 unfold av;have GA:=Zb w (.cells #[.slice ad a.aa.length cd,.slice af a.files.length cf] 35 (0,0))
 have S0:WS w (w.alloc (.cells #[.slice ad a.aa.length cd,.slice af a.files.length cf] 35 (0,0))) B p w.heap.size v v [] (.slice ad a.aa.length cd) (.slice af a.files.length cf):=⟨WF.of GA,h.below GA,GA.mono hB,Bx.new _ _ _,⟨by simp,by have:=h.lt;omega,hv⟩⟩
 have Gt:Z8 (a.aa.length:Int):=⟨by omega,by omega⟩
 have Gu:Z8 (a.files.length:Int):=⟨by omega,by omega⟩
 have hnb:=V3 a.aa.length (by omega);clear h hA hok GA hv hB;generalize a.aa.length=D at*;generalize a.files.length=N at*;go_enter func114,ntmps114
 go_wp2_with fail
 generalize (w.alloc (.cells #[.slice ad D cd,.slice af N cf] 35 (0,0)))=w0 at*;generalize w.heap.size=c at*;have C:=vG B p w0 v [] 0 ⟨#[112,114,101,115,115]⟩ S0.t (by simp;decide);refine C.mono ?_;intro e w1 hs1;obtain⟨rfl,v1,S1,_⟩:=S0.call hs1;clear hs1 C S0;have x0:=S1.x.c0;have x1:=S1.x.c1;go_wp2_with fail
 have C:=qu B p w1 v1 _ 0 (D:Int) S1.t (by decide);rw[qy Gt,Yj Gt,Int.toNat_natCast,show([]++(⟨#[112,114,101,115,115]⟩:ByteArray).data.toList++VB D)=pd 0 from H0.out]at C;refine C.mono ?_;intro e w2 hs1;obtain⟨rfl,v2,S2,_⟩:=S1.call hs1;clear hs1 C S1 x0 x1;have x0:=S2.x.c0;have x1:=S2.x.c1;go_wp2_with fail
 clear x0 x1;go_loopw [20] (λi wr=>∃(k:Nat) (v1:Value),k<=D/\i=.int .i64 k/\WS w wr B p c v v1 (pd k) (.slice ad D cd) (.slice af N cf)) (λi _=>D-(intOf i).toNat)
 case atStart=>exact⟨0,_,by omega,rfl,S2⟩
 case round =>
  clear S2;obtain⟨k,v1,hk2,rfl,S3⟩:=hrel;by_cases hlt:k<D
  ·have d1:decide ((k:Int)<(D:Int))=true:=al (by omega);have d1':=al hlt;have hki:(k:Int)<(D:Int):=by omega
   obtain⟨b,off,rfl,hbl,hcell⟩:=HX.out wr S3.b k hlt;obtain⟨e1,e2⟩:=HD.out k hlt;have e3:=qA.out k;generalize VA a.aa k=X at*;go_wp2_with fail
   have C:=FY B p wr v1 _ 0 X S3.t (by omega) (by omega);rw[aaK e2,Gs e2,<-e1]at C;refine C.mono ?_;intro e w3 hs1;obtain⟨rfl,v3,S4,_⟩:=S3.call hs1;clear hs1 C S3;go_wp2_with fail
   go_roundw
   case rel=>exact⟨k+1,_,by omega,by go_num,S4⟩
   case measure=>simp[intOf];omega
  ·obtain rfl:k=D:=by omega
   have d1:decide ((k:Int)<(k:Int))=false:=by simp
   have d1':decide (k<k)=false:=by simp
   have x0:=S3.x.c0;have x1:=S3.x.c1;have e3:=qA.out k;go_wp2_with fail
   have C:=qu B p wr v1 _ 0 (N:Int) S3.t (by omega);rw[qy Gu,Yj Gu,Int.toNat_natCast,H1.out]at C;refine C.mono ?_;intro e w3 hs1;obtain⟨rfl,v3,S4,_⟩:=S3.call hs1;clear hs1 C S3 x0 x1;have x0:=S4.x.c0;have x1:=S4.x.c1;go_wp2_with fail
   clear x0 x1 e3;go_loopw [36] (λi wr=>∃(m:Nat) (v1:Value),m<=N/\i=.int .i64 m/\WS w wr B p c v v1 (pf m) (.slice ad k cd) (.slice af N cf)) (λi _=>N-(intOf i).toNat)
   case atStart=>exact⟨0,_,by omega,rfl,S4⟩
   case round =>
    clear S4;obtain⟨m,u0,hm2,rfl,T0⟩:=hrel;by_cases hlt:m<N
    ·have d2:decide ((m:Int)<(N:Int))=true:=al (by omega);have eJ:=al hlt;have jQ:(m:Int)<(N:Int):=by omega
     obtain⟨b,off,rfl,hbl,c0,c1,c2,c3,c4⟩:=cy.out wr T0.b m hlt;obtain⟨e1,o0,o1,o2,o3,o4⟩:=HF.out m hlt;have e3:=vQ.out (m+1);rw[e1]at e3;unfold kP at e1 e3;simp only[List.length_append]at e3;have HE:Hid (_=_):=e1;clear e1;generalize (Nm a.files m).name=f0 at*;generalize (Nm a.files m).dict=f1 at*;generalize (Nm a.files m).size=f2 at*;generalize (Nm a.files m).sum=f3 at*;generalize (Nm a.files m).blk=f4 at*
     have oN:Z8 (f4.size:Int):=⟨by omega,by omega⟩
     have n0:(Im.tb f0).length=(VB f0.size).length+f0.size:=by unfold Im.tb;rw[List.length_append,<-Zf]
     have n4:(Im.tb f4).length=(VB f4.size).length+f4.size:=by unfold Im.tb;rw[List.length_append,<-Zf]
     have GF:=Zb wr (.cells #[.string f0,.int .i64 f1,.int .i64 f2,.int .i64 f3,.string f4] 73 (0,0));have T1:=T0.below GF;have lT:=FB.new wr 73 (.string f0) (.int .i64 f1) (.int .i64 f2) (.int .i64 f3) (.string f4)
     have K0:Kp (wr.alloc (.cells #[.string f0,.int .i64 f1,.int .i64 f2,.int .i64 f3,.string f4] 73 (0,0))) p u0 wr.heap.size:=⟨by simp,by have:=T0.t.lt;omega,λe=>by have:=(T0.t.own.lt _ e).2;omega⟩
     go_wp2_with fail
     clear T0 GF c0 c1 c2 c3 c4;generalize (wr.alloc (.cells #[.string f0,.int .i64 f1,.int .i64 f2,.int .i64 f3,.string f4] 73 (0,0)))=z0 at*;generalize wr.heap.size=bF at*;have C:=FY B p z0 u0 _ 0 f0 T1.t (by omega) (by omega);rw[aaK o0,Gs o0]at C;refine C.mono ?_;intro e z1 hs1;obtain⟨rfl,v19,T2,F⟩:=T1.call hs1;obtain⟨K1,hbk⟩:=K0.next F;have Ag:=lT.blk hbk;clear hs1 C T1 K0 hbk F lT;have y:z1.cell? ⟨bF,1,none⟩=some (.int .i64 f1):=Ag.c 1 (by omega);go_wp2_with fail
     clear y;have C:=qu B p z1 v19 _ 0 f1 T2.t (by simp only[List.length_append];omega);rw[qy o1,Yj o1]at C;refine C.mono ?_;intro e z2 hs1;obtain⟨rfl,v29,T3,F⟩:=T2.call hs1;obtain⟨K2,hbk⟩:=K1.next F;have Ah:=Ag.blk hbk;clear hs1 C T2 K1 hbk F Ag;have y:z2.cell? ⟨bF,2,none⟩=some (.int .i64 f2):=Ah.c 2 (by omega);go_wp2_with fail
     clear y;have C:=qu B p z2 v29 _ 0 f2 T3.t (by simp only[List.length_append];omega);rw[qy o2,Yj o2]at C;refine C.mono ?_;intro e z3 hs1;obtain⟨rfl,v39,T4,F⟩:=T3.call hs1;obtain⟨K3,hbk⟩:=K2.next F;have Ai:=Ah.blk hbk;clear hs1 C T3 K2 hbk F Ah;have y:z3.cell? ⟨bF,3,none⟩=some (.int .i64 f3):=Ai.c 3 (by omega);go_wp2_with fail
     clear y;have C:=qu B p z3 v39 _ 0 f3 T4.t (by simp only[List.length_append];omega);rw[qy o3,Yj o3]at C;refine C.mono ?_;intro e z4 hs1;obtain⟨rfl,v49,T5,F⟩:=T4.call hs1;obtain⟨K4,hbk⟩:=K3.next F;have Aj:=Ai.blk hbk;clear hs1 C T4 K3 hbk F Ai;have y:z4.cell? ⟨bF,4,none⟩=some (.string f4):=Aj.c 4 (by omega);go_wp2_with fail
     clear y;have C:=Qs B p z4 v49 _ 0 f4 T5.t (by simp only[List.length_append];omega);rw[qy oN,Yj oN,Int.toNat_natCast]at C;refine C.mono ?_;intro e z5 hs1;obtain⟨rfl,v59,T6,F⟩:=T5.call hs1;obtain⟨K5,hbk⟩:=K4.next F;have Vm:=Aj.blk hbk;clear hs1 C T5 K4 hbk F Aj;have hl:Hid (pf (m+1)=pf m++Im.tb f0++VB f1.toNat++VB f2.toNat++VB f3.toNat++VB f4.size++f4.data.toList):=by show _=_;rw[HE.out];simp only[Im.tb,List.append_assoc]
     rw[<-hl.out]at T6;clear hl HE;go_wp2_with fail
     go_roundw
     case rel=>exact⟨m+1,_,by omega,by go_num,T6⟩
     case measure=>simp[intOf];omega
    ·obtain rfl:m=N:=by omega
     have d2:decide ((m:Int)<(m:Int))=false:=by simp
     have eJ:decide (m<m)=false:=by simp
     rw[H2.out]at T0;have hq:=HQ.out _ _ T0.t T0.b T0.f;go_wp2_with fail
     go_end0
     exact hq
namespace Cd
theorem QL(h:(VO f s).2=0):(VO f s).1.size<=5000:=by
 unfold VO at h |-
 by_cases hc:Wj f≠0
 ·rw[ax hc]at h;exact absurd h hc
 ·rw[ab hc]at h |-
  by_cases hs:1024<s.size
  ·rw[ax hs]at h;simp at h
  ·rw[ab hs]at h |-
   cases hw:Yd f s s.size with
   |none=>rw[hw]at h;simp at h
   |some bs =>
    simp only;have:=pV (Yc (by simpa using hc)).1 _ _ hw;rw[rU];omega
theorem QM(h:(VP f b n).2=0):b.size<=5000:=by
 have h1:=(Dz h).1;have h2:=QL (f:=f) (s:=(VP f b n).1) (by rw[h1]);rw[h1]at h2;exact h2
end Cd
namespace Bk
theorem QN(h:(WB s).2=0):s.size<=6000:=by
 unfold WB at h;by_cases h8:s.size<8
 ·omega
 ·rw[ab h8]at h
  cases hq:Zt (s.extract 8 s.size).data.toList with
  |none=>rw[hq]at h;simp at h
  |some x =>
   obtain⟨n,k⟩:=x;rw[hq]at h;simp only at h;by_cases h0:(VP (Wa (s.extract 0 8)) ((s.extract 8 s.size).extract k (s.extract 8 s.size).size) (n:Nat)).2=0
   ·have:=QM h0;have hk:=WM hq;simp only[Zr]at this;omega
   ·rw[ab h0]at h;simp at h
theorem QO(h:(WH dict b).2=0):b.size<=7000:=by
 have hx:(b.extract 1 b.size).size=b.size-1:=by rw[Zr];omega
 unfold WH at h;by_cases hd:256<dict.size
 ·rw[ax hd]at h;simp at h
 ·rw[ab hd]at h;by_cases hb:b.size=0
  ·omega
  ·rw[ab hb]at h;by_cases h0:Cd.at8 b 0=0
   ·rw[ax h0]at h;unfold jo at h;by_cases h5:512<(b.extract 1 b.size).size
    ·rw[ax h5]at h;simp at h
    ·omega
   ·rw[ab h0]at h;by_cases h1:Cd.at8 b 0=1
    ·rw[ax h1]at h;unfold Wv at h;by_cases h5:1024<(b.extract 1 b.size).size
     ·rw[yP (by omega) h5]at h;simp at h
     ·omega
    ·rw[ab h1]at h;by_cases h2:Cd.at8 b 0=2
     ·rw[ax h2]at h;by_cases h3:(WB (b.extract 1 b.size)).2=0
      ·have:=QN h3;omega
      ·rw[ab h3]at h;exact absurd h h3
     ·rw[ab h2]at h;simp at h
end Bk
namespace Im
abbrev E:=ByteArray×Bool
instance (n:Int):Decidable (Z8 n):=inferInstanceAs (Decidable (0<=n/\n<=2147483647))
end Im
namespace Im
theorem qB{α:Type}(enc:α->B)(l m:List α):aaJ enc (l++m)=aaJ enc l++aaJ enc m:=by simp[aaJ]
end Im
namespace Im
def aV(a:Ar.A):Int:=if Vz a≠0 then Vz a else if 16384<(WU a).size then 2 else 0
def VT(a:Ar.A):ByteArray:=if aV a=0 then WU a else⟨#[]⟩
def XM(s:ByteArray):Option Ar.A:=match Wx s with
 |none=>none
 |some a=>if Vz a=0 then some a else none
def Xl(s:ByteArray):Int:=if 16384<s.size then 2 else match XM s with|none=>1|some _=>0
def fK(s:ByteArray):Ar.A:=if 16384<s.size then VC else match XM s with|none=>VC|some a=>a
def QP(a:Ar.A)(x:Act):Int :=
 if x.kind=1 then aO a x.name x.text x.n else if x.kind=2 then VE a x.name else if x.kind=3 then V6 a x.n else if x.kind=4 then Vz a else 6
def QQ(a:Ar.A)(x:Act):Ar.A :=
 if x.kind=1 then bW a x.name x.text x.n else if x.kind=2 then Wf a x.name else if x.kind=3 then WL a x.n else if x.kind=4 then bh a else VC
def QR(l:List Act)(a:Ar.A):Ar.A:=l.foldl (λa x=>if QP a x=0 then QQ a x else a) a
def done(l:List Act):Ar.A:=QR l VC
end Im
namespace Im
theorem Ak{α:Type}(enc:α->B)(M:Nat):∀l:List α,(∀x∈l,(enc x).length<=M)->(aaJ enc l).length<=l.length*M
 |[],_=>by simp[aaJ]
 |x :: l,h=>by
  have h1:=Ak enc M l (λy hy=>h y (List.mem_cons_of_mem _ hy));have h2:=h x (List.mem_cons_self ..);simp only[aaJ,List.flatMap_cons,List.length_append,List.length_cons]at h1 |-
  rw[Nat.succ_mul];omega
theorem aah{t:ByteArray}{m:Nat}(h:t.size<=m)(hm:m<=100000):(tb t).length<=5+m:=by
 unfold tb;have:=V3 t.size (by omega);rw[List.length_append,<-Zf];omega
theorem aac(h:Vz a=0){i:Nat}(hi:i<a.files.length):aaI (Nm a.files i)/\(Nm a.files i).name.size<=12/\(Nm a.files i).blk.size<=7000:=by
 obtain⟨hm,hg⟩:=VV.1 h;obtain⟨m1,m2,m3⟩:=Zj.1 hm;obtain⟨k1,_,k3⟩:=Y9 (Z0 hg hi);have hn:=Ox k1;simp only[dR,VY,Bool.and_eq_true,decide_eq_true_iff]at k3;obtain⟨⟨d0,d1⟩,u0,u1,u2⟩:=k3;have hb:=QO u0;have hz:=Bk.cD u0;have hs:=wW (Wd a.aa (Nm a.files i)).1 (Wd a.aa (Nm a.files i)).1.size;have hz':(Wd a.aa (Nm a.files i)).1.size<=512:=hz;unfold Wn at u2;refine⟨⟨by omega,⟨d0,by omega⟩,⟨by omega,by omega⟩,⟨by omega,by omega⟩,by omega⟩,hn,hb⟩
theorem YO(h:Vz a=0):aaH a/\(WT a).length<=200000:=by
 obtain⟨hm,hg⟩:=VV.1 h;obtain⟨m1,m2,m3⟩:=Zj.1 hm;have hd:=m3
 have hf:∀f∈a.files,aaI f/\f.name.size<=12/\f.blk.size<=7000:=λf hf=>by
  obtain⟨i,hi,rfl⟩:=List.getElem_of_mem hf;have:=aac h hi
  rwa [show Nm a.files i=a.files[i] by simp[Nm,hi]]at this
 refine⟨⟨m1,λd h9=>by have:=hd d h9;omega,m2,λf h9=>(hf f h9).1⟩,?_⟩;have l1:=Ak tb 300 a.aa (λd h9=>by have:=aah (hd d h9) (by omega);omega)
 have l2:=Ak kP 7100 a.files (λf h9=>by
  obtain⟨⟨_,⟨_,q1⟩,⟨_,q2⟩,⟨_,q3⟩,_⟩,h2,h3⟩:=hf f h9;have t1:=aah h2 (by omega);have t2:=aah h3 (by omega);have n1:=V3 f.dict.toNat (by omega);have n2:=V3 f.size.toNat (by omega);have n3:=V3 f.sum.toNat (by omega);unfold kP;simp only[List.length_append]
  omega)
 have n1:=V3 a.aa.length (by omega);have n2:=V3 a.files.length (by omega);have h4:a.aa.length*300<=4*300:=Nat.mul_le_mul_right _ m1;have h5:a.files.length*7100<=12*7100:=Nat.mul_le_mul_right _ m2;have h6:XV.length=5:=rfl;unfold WT;simp only[List.length_append];omega
end Im
theorem eC.new(w:World)(T:TypeId):eC w.heap.size w.heap.size (w.alloc (.cells #[.slice none 0 0,.int .i64 0] T (0,0))) (.slice none 0 0) [] 0 :=
 ⟨nl _,by simp,cN _ _ _ 0,cN _ _ _ 1,fN _ _ _ _ rfl,fN _ _ _ _ rfl,aM.nil _ _,by simp[Value.ownBlock]⟩
theorem QS(ad af:Option Addr)(cd cf:Nat)(a:Ar.A)(w:World)(h:bo w ad af a)(hs:ao a) :
 CB 75 #[av ad cd af cf a] w (.tuple #[.string (VT a),.int .i64 (aV a)]):=by
 have XA:=Bx.new w (.slice ad a.aa.length cd) (.slice af a.files.length cf);have B1:=Zb w (.cells #[.slice ad a.aa.length cd,.slice af a.files.length cf] 35 (0,0));have CK:=Zm ad af cd cf a _ (h.below B1) hs;have HV:=Za λw' (h9:ae w w')=>h.below h9
 by_cases hk:Vz a=0
 ·obtain⟨hok,hlen⟩:=YO hk;have CW:=Za λw' (h9:ae w w') B p w2 v (hB:B<=w2.heap.size) (h8:Below B w' w2) (hl:w'.heap.size<=B) (h7:eC B p w2 v [] 0)=>QK B p ad af cd cf a w2 v h7 (λw3 h6=>(HV.out w' h9).below ((h8.trans h6).mono hl)) hok (by omega)
  rw[hk]at CK;have hiz:(WU a).size=(WT a).length:=by rw[Zf,aaa]
  have Al:Hid (WU a=⟨(WT a).toArray⟩):=rfl;by_cases hbig:16384<(WU a).size
  ·have e1:aV a=2:=by unfold aV;rw[ab (by simpa using hk),ax hbig]
   have e2:VT a=⟨#[]⟩:=by unfold VT;rw[e1];rfl
   rw[e1,e2];have tr:=hlen;rw[hiz]at hbig;have hsz:(⟨(WT a).toArray⟩:ByteArray).size=(WT a).length:=by rw[Zf]
   have d9:decide ((16384:Int)<((⟨(WT a).toArray⟩:ByteArray).size:Int))=true:=al (by rw[hsz];omega);clear hk hok e1 e2 h hs HV hlen;generalize WT a=IB at*;generalize hR:(⟨IB.toArray⟩:ByteArray)=R at*;unfold av at CK CW |-
   generalize a.aa.length=D at*;generalize a.files.length=N at*;go_enter func75,ntmps75
   go_wp2_with fail
   refine mo CK λw2 G=>?_
   have B2:=ag B1 G;have tu:=XA.next G;have G3:=Zb w2 (.cells #[.slice none 0 0,.int .i64 0] 129 (0,0));have iG:=tu.next G3;have x0:=iG.c0;have x1:=iG.c1;have T3:=eC.new w2 129;clear XA tu CK G B1;go_wp2_with fail
   refine mo (CW.out w2 B2 w2.heap.size w2.heap.size _ _ (by simp) G3 (nl _) T3) ?_;rintro w4 ⟨G4,v',T4,F4⟩;have B4:=ag B2 (G3.trans G4);clear x0 x1 iG T3 CW F4;go_wp2_with fail
   have C:=FZ _ _ w4 v' IB 0 T4;rw[ax rfl,hR]at C;refine mo C λw5 G5=>?_
   have B5:=ag B4 G5;clear C T4 G3 G4 B4 B2;go_wp2_with fail
   go_ret2
   exact⟨rfl,B5⟩
  ·have e1:aV a=0:=by unfold aV;rw[ab (by simpa using hk),ab hbig]
   have e2:VT a=WU a:=by unfold VT;rw[e1];rfl
   rw[e1,e2];rw[Al.out];have tr:=hlen;rw[hiz]at hbig;have hsz:(⟨(WT a).toArray⟩:ByteArray).size=(WT a).length:=by rw[Zf]
   have d9:decide ((16384:Int)<((⟨(WT a).toArray⟩:ByteArray).size:Int))=false:=dF (by rw[hsz];omega);clear hk hok e1 e2 h hs HV hlen;generalize WT a=IB at*;generalize hR:(⟨IB.toArray⟩:ByteArray)=R at*;unfold av at CK CW |-
   generalize a.aa.length=D at*;generalize a.files.length=N at*;go_enter func75,ntmps75
   go_wp2_with fail
   refine mo CK λw2 G=>?_
   have B2:=ag B1 G;have tu:=XA.next G;have G3:=Zb w2 (.cells #[.slice none 0 0,.int .i64 0] 129 (0,0));have iG:=tu.next G3;have x0:=iG.c0;have x1:=iG.c1;have T3:=eC.new w2 129;clear XA tu CK G B1;go_wp2_with fail
   refine mo (CW.out w2 B2 w2.heap.size w2.heap.size _ _ (by simp) G3 (nl _) T3) ?_;rintro w4 ⟨G4,v',T4,F4⟩;have B4:=ag B2 (G3.trans G4);clear x0 x1 iG T3 CW F4;go_wp2_with fail
   have C:=FZ _ _ w4 v' IB 0 T4;rw[ax rfl,hR]at C;refine mo C λw5 G5=>?_
   have B5:=ag B4 G5;clear C T4 G3 G4 B4 B2;go_wp2_with fail
   go_ret2
   exact⟨rfl,B5⟩
 ·have e1:aV a=Vz a:=by unfold aV;rw[ax hk]
  have e2:VT a=⟨#[]⟩:=by unfold VT;rw[e1,ab hk]
  rw[e1,e2];have dk:(Vz a==0)=false:=by simpa using hk
  generalize Vz a=ck at*;unfold av at CK |-
  generalize a.aa.length=D at*;generalize a.files.length=N at*;go_enter func75,ntmps75
  go_wp2_with fail
  refine mo CK λw2 G=>?_
  have B2:=ag B1 G;go_wp2_with fail
  go_ret2
  exact⟨rfl,B2⟩
namespace Dk
def fM(a b:Ar.A)(e:Int):Ar.A×List UInt8:=if e=0 then(b,[111,107]) else(a,V0 e)
def Yk(a:Ar.A)(t:List UInt8)(e:Int):Ar.A×List UInt8:=if e=0 then(a,t) else(a,V0 e)
def dJ(f:Ar.F):List UInt8:=f.name.data.toList++[58]++VJ f.size.toNat++[47]++VJ f.blk.size
def bP(a:Ar.A):List UInt8:=if a.files=[] then [110,111,110,101] else [(32:UInt8)].intercalate (a.files.map dJ)
def Wb(a:Ar.A)(line:List UInt8):Ar.A×List UInt8 :=
 match VW line with
 |none=>(a,V0 1)
 |some (.put n t d)=>fM a (bW a (ba n) (ba t) d) (aO a (ba n) (ba t) d)
 |some (.drop n)=>fM a (Wf a (ba n)) (VE a (ba n))
 |some (.gx n)=>fM a (WL a n) (V6 a n)
 |some .compact=>fM a (bh a) (Vz a)
 |some (.get n)=>Yk a (bD a (ba n)).data.toList (VE a (ba n))
 |some (.range n i k)=>Yk a (W7 a (ba n) i k).data.toList (WO a (ba n) i k)
 |some .list=>(a,bP a)
 |some .size=>Yk a (VJ (Wg a)) (Vz a)
 |some .save=>if aV a=0 then(if Xl (VT a)=0 then(fK (VT a),VJ (VT a).size) else(a,V0 (Xl (VT a)))) else(a,V0 (aV a))
def YT(a:Ar.A):List (List UInt8)->List UInt8
 |[]=>[]
 |l :: ls=>(Wb a l).2++[10]++YT (Wb a l).1 ls
theorem pb :XM s=some a↔(Vz a=0/\WU a=s):=by
 unfold XM;constructor
 ·intro h
  cases hr:Wx s with
  |none=>rw[hr]at h;cases h
  |some x =>
   rw[hr]at h;simp only at h;split at h
   ·simp only[Option.some.injEq]at h;subst h;obtain⟨_,h2⟩:=(aab s x).1 hr;exact⟨by assumption,ZN (by rw[aaa,h2])⟩
   ·cases h
 ·rintro⟨h1,h2⟩;rw[(aab s a).2 ⟨(YO h1).1,by rw[<-h2,aaa]⟩];simp only[ax h1]
theorem aaR(h:aV a=0):Xl (VT a)=0/\fK (VT a)=a:=by
 have hT:VT a=WU a:=by unfold VT;rw[ax h]
 unfold aV at h;by_cases hc:Vz a≠0
 ·rw[ax hc]at h;exact absurd h hc
 ·rw[ab hc]at h;by_cases hz:16384<(WU a).size
  ·rw[ax hz]at h;cases h
  ·have ho:=pb.2 ⟨Decidable.not_not.1 hc,rfl⟩;rw[hT];unfold Xl fK;rw[ab hz,ab hz,ho];exact⟨rfl,rfl⟩
end Dk
namespace Dk
def fO(a:Ar.A)(line:List UInt8):Ar.A×List UInt8 :=
 let c:=Wr 32 line
 let c1:=Wr 32 c.2.1
 let c2:=Wr 32 c1.2.1
 if line=Yz then(a,bP a)
 else if line=YA then(a,VJ (Wg a))
 else if line=Yi then Yk a (VJ (VT a).size) (aV a)
 else if line=au then fM a (bh a) (Vz a)
 else if c.2.2=true/\c.1=bK then
  if c1.2.2=true/\c2.2.2=true/\Ws c2.1 then fM a (bW a (ba c1.1) (ba c2.2.1) (val c2.1)) (aO a (ba c1.1) (ba c2.2.1) (val c2.1)) else(a,V0 1)
 else if c.2.2=true/\c.1=aT then
  if c1.2.2=true then(a,V0 1) else fM a (Wf a (ba c1.1)) (VE a (ba c1.1))
 else if c.2.2=true/\c.1=aI then
  if Ws c.2.1 then fM a (WL a (val c.2.1)) (V6 a (val c.2.1)) else(a,V0 1)
 else if c.2.2=true/\c.1=YN then
  if c1.2.2=true then(a,V0 1) else Yk a (bD a (ba c1.1)).data.toList (VE a (ba c1.1))
 else if c.2.2=true/\c.1=aK then
  if c1.2.2=true/\c2.2.2=true/\Ws c2.1/\Ws c2.2.1 then Yk a (W7 a (ba c1.1) (val c2.1) (val c2.2.1)).data.toList (WO a (ba c1.1) (val c2.1) (val c2.2.1)) else(a,V0 1)
 else(a,V0 1)
theorem jt(l:List UInt8):(Ws (Wr 32 l).1/\¬(Wr 32 l).2.2=true)↔Ws l:=by
 constructor
 ·rintro⟨h1,h2⟩;rw[(dY (by simpa using h2)).1]at h1;exact h1
 ·intro h;rw[dz (gh h)];exact⟨h,by simp⟩
theorem eF(h:Ws l):(Wr 32 l).1=l:=by rw[dz (gh h)]
theorem alone{w:List UInt8}(hw:(32:UInt8) ∉ w):line=w↔((Wr 32 line).1=w/\(Wr 32 line).2.2=false):=by
 constructor
 ·rintro rfl;rw[dz hw];exact⟨rfl,rfl⟩
 ·rintro⟨h1,h2⟩;rw[<-h1];exact(dY h2).1.symm
theorem fP(h:Vz a=0)(line:List UInt8):Wb a line=fO a line:=by
 have aL:=alone (line:=line) (w:=Yz) (by decide);have aZ:=alone (line:=line) (w:=YA) (by decide);have aS:=alone (line:=line) (w:=Yi) (by decide);have aC:=alone (line:=line) (w:=au) (by decide);unfold Wb fO VW;simp only[aL,aZ,aS,aC];have n1:=jt (Wr 32 line).2.1;have n3:=jt (Wr 32 (Wr 32 (Wr 32 line).2.1).2.1).2.1;have v1:=@eF (Wr 32 line).2.1;have v3:=@eF (Wr 32 (Wr 32 (Wr 32 line).2.1).2.1).2.1;generalize Wr 32 line=c at*;obtain⟨c,r,m⟩:=c;simp only at n1 v1 n3 v3 |-
 generalize Wr 32 r=c1 at*;obtain⟨x1,r1,m1⟩:=c1;simp only at n1 v1 n3 v3 |-
 generalize Wr 32 r1=c2 at*;obtain⟨x2,r2,m2⟩:=c2;simp only at n1 v1 n3 v3 |-
 generalize Wr 32 r2=c3 at*;obtain⟨x3,r3,m3⟩:=c3;simp only at n1 v1 n3 v3 |-
 by_cases e1:c=bK
 ·subst e1
  cases m<;>cases m1<;>cases m2<;>by_cases h2:Ws x2<;>simp[bK,aT,YN,aI,aK,au,Yz,YA,Yi,h2]
 by_cases e2:c=aT
 ·subst e2
  cases m<;>cases m1<;>simp[bK,aT,YN,aI,aK,au,Yz,YA,Yi]
 by_cases e3:c=YN
 ·subst e3
  cases m<;>cases m1<;>simp[bK,aT,YN,aI,aK,au,Yz,YA,Yi]
 by_cases e4:c=aI
 ·subst e4;by_cases hr:Ws r
  ·have hx:=v1 hr;subst hx;have hm:=(n1.2 hr).2
   cases m1 with
   |true=>simp at hm
   |false=>cases m<;>simp[bK,aT,YN,aI,aK,au,Yz,YA,Yi,hr]
  ·have hr2:¬(Ws x1/\¬m1=true):=λh9=>hr (n1.1 h9)
   cases m<;>cases m1<;>by_cases h1:Ws x1<;>simp_all[bK,aT,YN,aI,aK,au,Yz,YA,Yi]
 by_cases e5:c=aK
 ·subst e5;by_cases hr:Ws r2
  ·have hx:=v3 hr;subst hx;have hm:=(n3.2 hr).2
   cases m3 with
   |true=>simp at hm
   |false=>cases m<;>cases m1<;>cases m2<;>by_cases h2:Ws x2<;>simp[bK,aT,YN,aI,aK,au,Yz,YA,Yi,hr,h2]
  ·have hr2:¬(Ws x3/\¬m3=true):=λh9=>hr (n3.1 h9)
   cases m<;>cases m1<;>cases m2<;>cases m3<;>by_cases h2:Ws x2<;>by_cases h1:Ws x3<;>simp_all[bK,aT,YN,aI,aK,au,Yz,YA,Yi]
 by_cases e6:c=au
 ·subst e6
  cases m<;>simp[bK,aT,YN,aI,aK,au,Yz,YA,Yi]
 by_cases e7:c=Yz
 ·subst e7
  cases m<;>simp[bK,aT,YN,aI,aK,au,Yz,YA,Yi]
 by_cases e8:c=YA
 ·subst e8
  cases m<;>simp[bK,aT,YN,aI,aK,au,Yz,YA,Yi,Yk,h]
 by_cases e9:c=Yi
 ·subst e9;by_cases hs:aV a=0
  ·obtain⟨h1,h2⟩:=aaR hs
   cases m<;>simp[bK,aT,YN,aI,aK,au,Yz,YA,Yi,Yk,hs,h1,h2]
  ·cases m<;>simp[bK,aT,YN,aI,aK,au,Yz,YA,Yi,Yk,hs]
 simp[e1,e2,e3,e4,e5,e6,e7,e8,e9]
theorem fm{b:Ar.A}(h:Vz a=0)(hb:e=0->Vz b=0):Vz (fM a b e).1=0:=by
 unfold fM;by_cases he:e=0
 ·rw[ax he];exact hb he
 ·rw[ab he];exact h
theorem gR{t:List UInt8}(h:Vz a=0):Vz (Yk a t e).1=0:=by
 unfold Yk;by_cases he:e=0
 ·rw[ax he];exact h
 ·rw[ab he];exact h
theorem fQ(h:Vz a=0)(line:List UInt8):Vz (Wb a line).1=0:=by
 unfold Wb;split
 ·exact h
 ·exact fm h NY
 ·exact fm h Ar.N0
 ·exact fm h Qc
 ·exact fm h Qb
 ·exact gR h
 ·exact gR h
 ·exact h
 ·exact gR h
 ·by_cases hs:aV a=0
  ·obtain⟨h1,h2⟩:=aaR hs;rw[ax hs,ax h1,h2];exact h
  ·rw[ab hs];exact h
def mM(a:Ar.A):List (List UInt8)->List UInt8
 |[]=>[]
 |l :: ls=>(fO a l).2++[10]++mM (fO a l).1 ls
theorem iu:∀(ls:List (List UInt8)) {a:Ar.A},Vz a=0->YT a ls=mM a ls
 |[],_,_=>rfl
 |l :: ls,a,h=>by
  unfold YT mM;rw[iu ls (fQ h l),fP h]
end Dk
namespace Dk
theorem inter_snoc(s:List UInt8):∀(l:List (List UInt8)) (x:List UInt8),s.intercalate (l++[x])=if l=[] then x else s.intercalate l++s++x
 |[],x=>by simp[List.intercalate]
 |[y],x=>by simp[List.intercalate,List.intersperse]
 |y :: z :: t,x=>by
  have h:=inter_snoc s (z :: t) x;rw[ab (by simp)]at h |-
  simp only[List.intercalate,List.cons_append,List.intersperse,List.flatten_cons]at h |-
  rw[h];simp
def lst(fs:List Ar.F):List UInt8:=[(32:UInt8)].intercalate (fs.map dJ)
theorem k7(h:k<fs.length):lst (fs.take (k+1))=(if k=0 then lst (fs.take k) else lst (fs.take k)++[32])++dJ fs[k]:=by
 unfold lst;rw[List.take_add_one,List.getElem?_eq_getElem h,Option.toList_some,List.map_append,List.map_cons,List.map_nil,inter_snoc]
 cases k with
 |zero=>simp[List.intercalate]
 |succ k =>
  have:fs ≠ []:=λe=>by rw[e]at h;simp at h
  simp[this]
theorem k8(f:Ar.F):dJ f ≠ []:=by simp[dJ]
theorem gS :lst fs=[]↔fs=[]:=by
 constructor
 ·intro h
  cases fs with
  |nil=>rfl
  |cons f t =>
   exfalso
   have hf:=k8 f
   cases t with
   |nil=>simp[lst,List.intercalate]at h;exact hf h
   |cons g t=>simp[lst,List.intercalate]at h
 ·rintro rfl;rfl
theorem iw(a:Ar.A):bP a=if lst a.files=[] then [110,111,110,101] else lst a.files:=by
 unfold bP;by_cases h:a.files=[]
 ·rw[ax h,ax (gS.2 h)]
 ·rw[ab h,ab (λe=>h (gS.1 e))];rfl
end Dk
namespace Dk
def YU(acc:List UInt8):List UInt8->List (List UInt8)
 |[]=>[]
 |x :: l=>if x=10 then acc :: YU [] l else YU (acc++[x]) l
theorem fR:∀(l acc:List UInt8),YU acc l=if(Wr 10 l).2.2=true then(acc++(Wr 10 l).1) :: YU [] (Wr 10 l).2.1 else []
 |[],acc=>by simp[YU,Wr]
 |x :: l,acc=>by
  have e1:YU acc (x :: l)=if x=10 then acc :: YU [] l else YU (acc++[x]) l:=rfl
  rw[e1];by_cases hx:x=10
  ·simp[hx,Wr]
  ·have e2:Wr 10 (x :: l)=(x :: (Wr 10 l).1,(Wr 10 l).2.1,(Wr 10 l).2.2):=by
    show(if x=10 then _ else _)=_;rw[ab hx]
   rw[ab hx,fR l (acc++[x]),e2];simp
theorem ix{c:UInt8}(h:(Wr c l).2.2=true):(Wr c l).2.1.length+(Wr c l).1.length+1=l.length:=by
 have h1:=congrArg List.length (jg h).1;simp at h1;omega
end Dk
namespace Dk
def XQ(s:List UInt8):Int:=if 16384<s.length\/100<s.count 10 then 2 else if s ≠ []/\s.getLast? ≠ some 10 then 1 else 0
def XP(s:List UInt8):List UInt8:=if XQ s=0 then YT VC (YU [] s) else []
theorem YV(h:16384<l.length\/100<l.count 10):XQ l=2/\XP l=[]:=by
 have e:XQ l=2:=ax h;exact⟨e,by unfold XP;rw[e];rfl⟩
theorem gy(h:¬(16384<l.length\/100<l.count 10))(h2:l ≠ []/\l.getLast? ≠ some 10):XQ l=1/\XP l=[]:=by
 have e:XQ l=1:=by unfold XQ;rw[ab h,ax h2]
 exact⟨e,by unfold XP;rw[e];rfl⟩
theorem aa0(h:¬(16384<l.length\/100<l.count 10))(h2:¬(l ≠ []/\l.getLast? ≠ some 10)):XQ l=0/\XP l=YT VC (YU [] l):=by
 have e:XQ l=0:=by unfold XQ;rw[ab h,ab h2]
 exact⟨e,by unfold XP;rw[ax e]⟩
def s0 : List UInt8 := "put a 0 one two one two one two\nlist\nget a\nrange a 4 3\nput b 0 \ntrain 16\nsize\nsave\ndrop b\ncompact\nget b\nx\n".toUTF8.data.toList
def t0 : List UInt8 := "ok\na:23/12\none two one two one two\ntwo\nok\nok\n13\n35\nok\nok\nerror 5\nerror 1\n".toUTF8.data.toList
theorem Am:XQ s0=0:=by decide +kernel
theorem An:XP s0=t0:=by decide +kernel
end Dk
theorem Ao(ad af:Option Addr)(cd cf:Nat)(a:Ar.A)(name:ByteArray)(w:World)(h:ez w af a.files)(hn:a.files.length<=12) :
 CB 86 #[av ad cd af cf a,.string name] w (.int .i64 (match Xz a.files name a.files.length with|none=>-1|some i=>(i:Int))):=by
 have hb:=λo=>(bR w.heap.size w).alloc (nl _) o
 have cy:=Za λw' (h9:ae w w') k (hk:k<a.files.length)=>(h.below h9).at hk
 obtain⟨r,hr⟩:∃r,(match Xz a.files name a.files.length with|none=>(-1:Int)|some i=>(i:Int))=r:=⟨_,rfl⟩
 rw[hr];have Hr:=Za hr;clear hr h;unfold av;generalize hN:a.files.length=N at*;have HN:=Za hN;clear hN;generalize a.aa.length=D at*;have hNi:(N:Int)<=12:=by omega
 go_enter func86,ntmps86
 go_wp2_with fail
 have a1:(w.alloc (.cells #[.slice ad D cd,.slice af N cf] 35 (0,0))).cell? ⟨w.heap.size,1,none⟩=some (.slice af N cf):=cN _ _ _ 1;have B1:=hb (.cells #[.slice ad D cd,.slice af N cf] 35 (0,0));generalize (w.alloc (.cells #[.slice ad D cd,.slice af N cf] 35 (0,0)))=w1 at*;go_loopw [5] (λi wr=>∃k:Nat,k<=N/\i=.int .i64 k/\Hid (Xz a.files name k=none)/\wr=w1) (λi _=>N-(intOf i).toNat)
 case atStart=>exact⟨0,by omega,rfl,rfl,rfl⟩
 case round =>
  obtain⟨k,hk2,rfl,HL,rfl⟩:=hrel;by_cases hlt:k<N
  ·have d1:=al (by omega:(k:Int)<(N:Int));have d1':=al (by omega:k<N);have hki:(k:Int)<(N:Int):=by omega
   obtain⟨b,off,rfl,hbl,hcell⟩:=cy.out wr B1 k hlt;obtain⟨c0,c1,c2,c3,c4⟩:=hcell;have hbe:=nN (Nm a.files k).name name;by_cases hd:(Nm a.files k).name=name
   ·have vS:Hid (Xz a.files name (k+1)=some k):=by show _=_;rw[Xz,HL.out];exact ax hd
    have HR:Hid ((k:Int)=r):=by
     have h9:=Nv vS.out (N-(k+1));rw[show k+1+(N-(k+1))=N by omega]at h9;have:=Hr.out;rw[h9]at this;exact this
    rw[decide_eq_true hd]at hbe;clear vS hd Hr HL;generalize (Nm a.files k).name=f0 at*;go_wp2_with fail
    go_ret
    exact⟨congrArg (λx=>Ending.returned (Value.int .i64 x)) HR.out,B1⟩
   ·have vS:Hid (Xz a.files name (k+1)=none):=by show _=_;rw[Xz,HL.out];exact ab hd
    rw[decide_eq_false hd]at hbe;clear hd;generalize (Nm a.files k).name=f0 at*;go_wp2_with fail
    go_roundw
    case rel=>exact⟨k+1,by omega,by go_num,vS,by trivial⟩
    case measure=>simp[intOf];omega
  ·obtain rfl:k=N:=by omega
   have HR:Hid ((-1:Int)=r):=by have:=Hr.out;rw[HL.out]at this;exact this
   have d1:decide ((k:Int)<(k:Int))=false:=by simp
   clear Hr;go_wp2_with fail
   go_ret
   exact⟨congrArg (λx=>Ending.returned (Value.int .i64 x)) HR.out,B1⟩
theorem QT(ad af:Option Addr)(cd cf:Nat)(a:Ar.A)(w:World)(h:bo w ad af a)(hs:ao a)(hc:Vz a=0) :
 CB 25 #[av ad cd af cf a] w (.int .i64 (Ar.sz a:Nat)):=by
 have hb:=λo=>(bR w.heap.size w).alloc (nl _) o
 obtain⟨m1,m2,m3⟩:=Zj.1 (VV.1 hc).1;have HX:=Za λw' (hb:ae w w') k (hk:k<a.aa.length)=>(h.ds.below hb).at hk
 have cy:=Za λw' (h9:ae w w') k (hk:k<a.files.length)=>(h.fs.below h9).at hk
 have HD:Hid (∀k,iQ a.aa (k+1)=iQ a.aa k+(VA a.aa k).size):=λk=>rfl
 have HF:Hid (∀k,iR a.files (k+1)=iR a.files k+(Nm a.files k).blk.size):=λk=>rfl
 have it:=Za λk=>vC hs.ds k
 have zT:=Za λk=>Z3 hs.bk k
 have HZ:Hid (∀k,(VA a.aa k).size<=140737488355328/\(Nm a.files k).blk.size<=140737488355328):=λk=>⟨hs.ds k,hs.bk k⟩
 have h0:Hid (iQ a.aa 0=0/\iR a.files 0=0):=⟨rfl,rfl⟩
 have HS:Hid (Ar.sz a=iQ a.aa a.aa.length+iR a.files a.files.length):=rfl;generalize Ar.sz a=SZ at*;generalize iQ a.aa=sd at*;generalize iR a.files=sf at*;unfold av;clear h hs hc m3;generalize a.aa.length=D at*;generalize a.files.length=N at*;have hDi:(D:Int)<=4:=by omega
 have hNi:(N:Int)<=12:=by omega
 go_enter func25,ntmps25
 go_wp2_with fail
 have a0:(w.alloc (.cells #[.slice ad D cd,.slice af N cf] 35 (0,0))).cell? ⟨w.heap.size,0,none⟩=some (.slice ad D cd):=cN _ _ _ 0;have a1:(w.alloc (.cells #[.slice ad D cd,.slice af N cf] 35 (0,0))).cell? ⟨w.heap.size,1,none⟩=some (.slice af N cf):=cN _ _ _ 1;have B1:=hb (.cells #[.slice ad D cd,.slice af N cf] 35 (0,0));generalize (w.alloc (.cells #[.slice ad D cd,.slice af N cf] 35 (0,0)))=w1 at*;go_loopw [3,4] (λn i wr=>∃k:Nat,k<=D/\n=.int .i64 (sd k:Nat)/\i=.int .i64 k/\wr=w1) (λ_ i _=>D-(intOf i).toNat)
 case atStart=>exact⟨0,by omega,by rw[h0.out.1];rfl,rfl,rfl⟩
 case round =>
  obtain⟨k,hk2,rfl,rfl,rfl⟩:=hrel;by_cases hlt:k<D
  ·have d1:=al (by omega:(k:Int)<(D:Int));have d1':=al (by omega:k<D);have hki:(k:Int)<(D:Int):=by omega
   obtain⟨b,off,rfl,hbl,hcell⟩:=HX.out wr B1 k hlt;have e1:=HD.out k;have e2:=it.out k;have e3:=(HZ.out k).1;generalize VA a.aa k=X at*;generalize hsk:sd k=s0 at*;clear hsk;have hw:IntKind.i64.wrap ((s0:Int)+(X.size:Int))=(s0:Int)+(X.size:Int):=IntWalk.i64_in _ ⟨by omega,by omega⟩;go_wp2_with fail
   go_roundw
   case rel=>exact⟨k+1,by omega,by rw[e1];go_num,by go_num,by trivial⟩
   case measure=>simp[intOf];omega
  ·obtain rfl:k=D:=by omega
   have d1:decide ((k:Int)<(k:Int))=false:=by simp
   have e2:=it.out k;generalize sd k=s0 at*;go_wp2_with fail
   go_loopw [3,5] (λn i w2=>∃m:Nat,m<=N/\n=.int .i64 ((s0+sf m:Nat):Int)/\i=.int .i64 m/\w2=wr) (λ_ i _=>N-(intOf i).toNat)
   case atStart=>exact⟨0,by omega,by rw[h0.out.2];rfl,rfl,rfl⟩
   case round =>
    obtain⟨m,hm2,rfl,rfl,hwr⟩:=hrel;subst hwr;by_cases hlt:m<N
    ·have d2:=al (by omega:(m:Int)<(N:Int));have eJ:=al (by omega:m<N);have jQ:(m:Int)<(N:Int):=by omega
     obtain⟨b,off,rfl,hbl,hcell⟩:=cy.out _ B1 m hlt;obtain⟨c0,c1,c2,c3,c4⟩:=hcell;have e1:=HF.out m;have e4:=zT.out m;have e3:=(HZ.out m).2;generalize (Nm a.files m).blk=f4 at*
     obtain⟨t0,ht0⟩:∃t0,t0=s0+sf m:=⟨_,rfl⟩
     rw[<-ht0];have hw:IntKind.i64.wrap ((t0:Int)+(f4.size:Int))=(t0:Int)+(f4.size:Int):=IntWalk.i64_in _ ⟨by omega,by omega⟩;have HT:Hid (s0+sf (m+1)=t0+f4.size):=by show _=_;rw[e1,ht0];omega
     clear ht0 e1;go_wp2_with fail
     go_roundw
     case rel=>exact⟨m+1,by omega,by rw[HT.out];go_num,by go_num,by trivial⟩
     case measure=>simp[intOf];omega
    ·obtain rfl:m=N:=by omega
     have d2:decide ((m:Int)<(m:Int))=false:=by simp
     have hS:=HS.out;rw[<-hS];clear hS HS;go_wp2_with fail
     go_ret
     exact⟨rfl,B1⟩
set_option linter.unusedVariables false
theorem QU(dict:ByteArray)(ad:Option Addr)(cap:Nat)(l:List Tk.T)(w:World)(hl:cJ w ad l)(hs:bu l) :
 CB 126 #[.string dict,.slice ad l.length cap] w (.string (gZ dict l)):=by
 have c1:=λw hl=>Cp dict ad cap l w hl hs
 generalize gZ dict l=P at*;generalize Zw dict l=C at*;go_enter func126,ntmps126
 go_wp2_with fail
 refine mo (c1 _ hl) λw1 G=>?_
 go_wp2_with fail
 go_ret
 exact⟨rfl,G⟩
theorem Gv(hd:dict.size<=256)(hs:s.size<=140737488355328)(hm:ZM dict s=some m)(w:World):Calls prog 125 #[.string dict,.string s] w λe w'=>ae w w'/\∃ad cap,e=.returned (.tuple #[.slice ad m.length cap,.bool true])/\cJ w' ad m:=(El dict s w hs).mono λe w' h=>by
 rw[Er hd]at h
 rcases h with⟨h1,⟨h2,_⟩|⟨k,a,c,h2,h3,h4⟩⟩
 ·rw[hm]at h2;cases h2
 ·rw[hm]at h2;cases h2;exact⟨h1,a,c,h3,h4⟩
theorem Gw(hd:dict.size<=256)(hs:s.size<=140737488355328)(hm:ZM dict s=none)(w:World):Calls prog 125 #[.string dict,.string s] w λe w'=>ae w w'/\e=.returned (.tuple #[.slice none 0 0,.bool false]):=(El dict s w hs).mono λe w' h=>by
 rw[Er hd]at h
 rcases h with⟨h1,⟨_,h2⟩|⟨k,a,c,h2,h3,h4⟩⟩
 ·exact⟨h1,h2⟩
 ·rw[hm]at h2;cases h2
theorem Gx(hd:dict.size<=256)(hm:ZM dict s=some m)(ad:Option Addr)(cap:Nat)(w:World)(h:cJ w ad m):CB 126 #[.string dict,.slice ad m.length cap] w (.string (gZ dict m)) :=
 QU dict ad cap m w h (yO (va (Ep hd hm).2))
theorem bL(h0:b.size≠0):b.toList.isEmpty=false:=by
 rw[ByteArray.toList_eq,Bool.eq_false_iff];intro e;rw[List.isEmpty_iff]at e;apply h0;have:=congrArg List.length e;rw[Xw]at this;simpa using this
theorem QV(h:0<b.size):Cd.at8 b 0=b[0].toNat:=by unfold Cd.at8;rw[ZX b 0 h];rfl
theorem QW(s:ByteArray)(j:Nat)(hj:j<8):Cd.at8 (s.extract 0 8) j=Cd.at8 s j:=by
 unfold Cd.at8
 congr 2
 simp[ByteArray.data_extract,Array.toList_extract];rw[List.getElem?_take_of_lt hj,Array.getElem?_toList]
theorem vT(s:ByteArray)(i:Nat):Wm s 8 i=Wa (s.extract 0 8) i:=by
 unfold Wa Wm;by_cases h:i<2*8
 ·rw[ax h,ax h,QW s (i/2) (by omega)]
 ·rw[ab h,ab h]
theorem QX(dict:ByteArray)(w:World) :
 CB 80 #[.string dict,.string ⟨#[]⟩] w (.tuple #[.string ⟨#[]⟩,.bool false]):=by
 go_enter func80,ntmps80
 go_wp2_with fail
 go_ret2
 exact⟨rfl,bR _ _⟩
theorem QY(dict b S:ByteArray)(w:World)(hd:dict.size<=256)(hb:b.size<=140737488355328)(h0:0<b.size)(hS:b.extract 1 b.size=S)(hx:(b[0].toNat:Int)=0) :
 CB 80 #[.string dict,.string b] w (.tuple #[.string S,.bool (decide ((S.size:Int)<=512))]):=by
 have hne:=bL (b:=b) (by omega);have hb1:(1:Int)<=(b.size:Int):=by omega
 have gI:1<=b.size:=by omega
 have hb0:(0:Int)<(b.size:Int):=by omega
 have hbi:(b.size:Int)<=140737488355328:=by omega
 have hs1:=Zr b 1 b.size;rw[hS]at hs1;have hs2:S.size<=140737488355328:=by omega
 clear hs1;go_enter func80,ntmps80
 go_wp2_with fail
 go_region
 go_wp2_with fail
 go_ret2
 exact⟨rfl,(bR _ _).drew⟩
theorem QZ(dict b S:ByteArray)(w:World)(hd:dict.size<=256)(hb:b.size<=140737488355328)(h0:0<b.size)(hS:b.extract 1 b.size=S)(hx:2<(b[0].toNat:Int)) :
 CB 80 #[.string dict,.string b] w (.tuple #[.string ⟨#[]⟩,.bool false]):=by
 have hne:=bL (b:=b) (by omega);have hb1:(1:Int)<=(b.size:Int):=by omega
 have gI:1<=b.size:=by omega
 have hb0:(0:Int)<(b.size:Int):=by omega
 have hbi:(b.size:Int)<=140737488355328:=by omega
 have hs1:=Zr b 1 b.size;rw[hS]at hs1;have hs2:S.size<=140737488355328:=by omega
 clear hs1
 obtain⟨x,hxe⟩:∃x:Int,(b[0].toNat:Int)=x:=⟨_,rfl⟩
 rw[hxe]at hx;have q0:(x==0)=false:=by simp;omega
 have q1:(x==2)=false:=by simp;omega
 have q2:¬x=0:=by omega
 have q3:¬x=2:=by omega
 have q4:=al (by omega:2<x);go_enter func80,ntmps80
 go_wp2_with fail
 go_region
 go_wp2_with fail
 go_ret2
 exact⟨rfl,(bR _ _).drew⟩
theorem Q0(dict b S:ByteArray)(w:World)(hd:dict.size<=256)(hb:b.size<=140737488355328)(h0:0<b.size)(hS:b.extract 1 b.size=S)(hx:(b[0].toNat:Int)=1)(hm:ZM dict S=none) :
 CB 80 #[.string dict,.string b] w (.tuple #[.string ⟨#[]⟩,.bool false]):=by
 have hne:=bL (b:=b) (by omega);have hb1:(1:Int)<=(b.size:Int):=by omega
 have gI:1<=b.size:=by omega
 have hb0:(0:Int)<(b.size:Int):=by omega
 have hbi:(b.size:Int)<=140737488355328:=by omega
 have hs1:=Zr b 1 b.size;rw[hS]at hs1;have hs2:S.size<=140737488355328:=by omega
 clear hs1;have c1:=λw=>Gw hd (by omega) hm w
 clear hm;go_enter func80,ntmps80
 go_wp2_with fail
 go_region
 go_wp2_with fail
 refine(c1 _).mono ?_;rintro e w1 ⟨G1,rfl⟩;have B1:ae w w1:=(bR _ _).drew.trans G1;go_wp2_with fail
 go_ret2
 exact⟨rfl,B1⟩
theorem Q4(dict b S:ByteArray)(w:World)(hd:dict.size<=256)(hb:b.size<=140737488355328)(h0:0<b.size)(hS:b.extract 1 b.size=S)(hx:(b[0].toNat:Int)=1)(m:List Tk.T)(hm:ZM dict S=some m) :
 CB 80 #[.string dict,.string b] w (.tuple #[.string (gZ dict m),.bool true]):=by
 have hne:=bL (b:=b) (by omega);have hb1:(1:Int)<=(b.size:Int):=by omega
 have gI:1<=b.size:=by omega
 have hb0:(0:Int)<(b.size:Int):=by omega
 have hbi:(b.size:Int)<=140737488355328:=by omega
 have hs1:=Zr b 1 b.size;rw[hS]at hs1;have hs2:S.size<=140737488355328:=by omega
 clear hs1;have c1:=λw=>Gv hd (by omega) hm w
 have c2:=λad cap w h=>Gx hd hm ad cap w h
 clear hm;generalize gZ dict m=P at*;go_enter func80,ntmps80
 go_wp2_with fail
 go_region
 go_wp2_with fail
 refine(c1 _).mono ?_;rintro e w1 ⟨G1,ad,cap,rfl,S1⟩;have B1:ae w w1:=(bR _ _).drew.trans G1;go_wp2_with fail
 refine mo (c2 ad cap _ S1) λw2 G2=>?_
 have B2:=ag B1 G2;go_wp2_with fail
 go_ret2
 exact⟨rfl,B2⟩
theorem Q5(dict b S:ByteArray)(w:World)(hd:dict.size<=256)(hb:b.size<=140737488355328)(h0:0<b.size)(hS:b.extract 1 b.size=S)(hx:(b[0].toNat:Int)=2)(h8:S.size<8) :
 CB 80 #[.string dict,.string b] w (.tuple #[.string ⟨#[]⟩,.bool false]):=by
 have hne:=bL (b:=b) (by omega);have hb1:(1:Int)<=(b.size:Int):=by omega
 have gI:1<=b.size:=by omega
 have hb0:(0:Int)<(b.size:Int):=by omega
 have hbi:(b.size:Int)<=140737488355328:=by omega
 have hs1:=Zr b 1 b.size;rw[hS]at hs1;have hs2:S.size<=140737488355328:=by omega
 clear hs1;have h8':(S.size:Int)<8:=by omega
 have vU:=al (by omega:(S.size:Int)<8);go_enter func80,ntmps80
 go_wp2_with fail
 go_region
 go_wp2_with fail
 go_ret2
 exact⟨rfl,(bR _ _).drew⟩
end Go.Proofs.YtbjbjbpgmojcbacGreatDoor
