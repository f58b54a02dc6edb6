/- A part of the proof: what it leans on. -/
import Derived.Test.YtbjbjbpgmojcbabGreatLsBook18
set_option maxRecDepth 8000
set_option maxHeartbeats 4000000
namespace Go.Proofs.YtbjbjbpgmojcbabGreat
open Go.RowKit
theorem ZhA (k n:Int) (nm tx:ByteArray) (w:World) (h:Im.actE ⟨k,n,nm,tx⟩=0) :
 Calls Tryz.prog 41 #[.agg #[.int .i64 k,.int .i64 n,.string nm,.string tx]] w fun e w'=>e=.returned (.string ⟨(Im.actB ⟨k,n,nm,tx⟩).toArray⟩)/\Below w.heap.size w w':=by
 obtain ⟨⟨k0,k1⟩,⟨n0,n1⟩,h3,h4⟩:=Im.Zbv.1 h;have hI:=Im.Zdb (Im.Zbv.1 h);simp only at k0 k1 n0 n1 h3 h4;have C1:=fun w=>ZF k.toNat k w k0 (by omega) k1
 have C2:=fun w=>ZF n.toNat n w n0 (by omega) n1
 have C3:=fun w=>ZbX nm w (by omega)
 have C4:=fun w=>ZbX tx w (by omega)
 have HI:Hid ((⟨(Nm.nb k.toNat).toArray⟩:ByteArray)++⟨(Nm.nb n.toNat).toArray⟩++⟨(Im.tb nm).toArray⟩++⟨(Im.tb tx).toArray⟩=⟨(Im.Zbh ⟨k,n,nm,tx⟩).toArray⟩):=by
  show _=_;rw [ZdN,ZdN,ZdN];unfold Im.Zbh;simp only [List.append_assoc]
 have C5:Hid (∀ w,Calls Tryz.prog 82 #[.string ⟨(Im.Zbh ⟨k,n,nm,tx⟩).toArray⟩] w fun e w'=>e=.returned (.string ⟨(Im.actB ⟨k,n,nm,tx⟩).toArray⟩)/\Below w.heap.size w w'):=fun w=>by
  have h9:=ZkP ⟨(Im.Zbh ⟨k,n,nm,tx⟩).toArray⟩ w (by rw [Zdf];omega);rw [show Im.tb ⟨(Im.Zbh ⟨k,n,nm,tx⟩).toArray⟩=Im.actB ⟨k,n,nm,tx⟩ by unfold Im.tb Im.actB;rw [Zdf]] at h9;exact h9
 rw [<-HI.out] at C5;have s1:(⟨(Nm.nb k.toNat).toArray⟩:ByteArray).size<=5:=by rw [Zdf];exact Nm.Zt _ (by omega)
 have s2:(⟨(Nm.nb n.toNat).toArray⟩:ByteArray).size<=5:=by rw [Zdf];exact Nm.Zt _ (by omega)
 have s3:(⟨(Im.tb nm).toArray⟩:ByteArray).size<=600:=by rw [Zdf];have:=Im.Zeu h3 (by omega);omega
 have s4:(⟨(Im.tb tx).toArray⟩:ByteArray).size<=600:=by rw [Zdf];have:=Im.Zeu h4 (by omega);omega
 generalize (⟨(Im.actB ⟨k,n,nm,tx⟩).toArray⟩:ByteArray)=R at *;generalize (⟨(Nm.nb k.toNat).toArray⟩:ByteArray)=t1 at *;generalize (⟨(Nm.nb n.toNat).toArray⟩:ByteArray)=t2 at *;generalize (⟨(Im.tb nm).toArray⟩:ByteArray)=t3 at *;generalize (⟨(Im.tb tx).toArray⟩:ByteArray)=t4 at *;clear h hI HI;have B1:=Za w (.cells #[.int .i64 k,.int .i64 n,.string nm,.string tx] 54 (0,0));have X1:=XB.new w 54 k n nm tx;have hbF:=X1.lt;have b1:¬ 9223372036854775807<t1.size+t2.size:=by omega
 have b2:¬ 9223372036854775807<t1.size+t2.size+t3.size:=by omega
 have b3:¬ 9223372036854775807<t1.size+t2.size+t3.size+t4.size:=by omega
 go_enter Tryz.func41,Tryz.ntmps41
 go_wp2_with fail
 generalize (w.alloc (.cells #[.int .i64 k,.int .i64 n,.string nm,.string tx] 54 (0,0)))=z0 at *
 have HSS:Hid (∀ w',Below z0.heap.size z0 w'->(fun w':World=>w'.cell? ⟨w.heap.size,0,none⟩=some (.int .i64 k)/\w'.cell? ⟨w.heap.size,1,none⟩=some (.int .i64 n)/\w'.cell? ⟨w.heap.size,2,none⟩=some (.string nm)/\w'.cell? ⟨w.heap.size,3,none⟩=some (.string tx)) w'):=fun w' h9=>⟨(X1.next h9).c0,(X1.next h9).c1,(X1.next h9).c2,(X1.next h9).c3⟩
 clear X1;have G0:=(bR z0.heap.size z0).drew;refine wp_region_held_drew (S:=fun w'=>w'.cell? ⟨w.heap.size,0,none⟩=some (.int .i64 k)/\w'.cell? ⟨w.heap.size,1,none⟩=some (.int .i64 n)/\w'.cell? ⟨w.heap.size,2,none⟩=some (.string nm)/\w'.cell? ⟨w.heap.size,3,none⟩=some (.string tx)) (by kernel_rfl) (HSS.out _ G0) (fun hS=>?_);refine wK (i:=0) (fuel:=16) (v:=.pointer (some ⟨w.heap.size,0,none⟩)) rfl (by kernel_rfl) (by kernel_rfl) (by kernel_rfl) (fun _ _ _ h=>h) (Or.inl ⟨by rfl,fun w' h9=>by obtain ⟨k1,k2,k3,k4⟩:=h9;go_simp⟩) hS ?_;refine wK (i:=1) (fuel:=15) (v:=.int .i64 k) rfl (by kernel_rfl) (by kernel_rfl) (by kernel_rfl) (fun _ _ _ h=>h) (Or.inl ⟨by rfl,fun w' h9=>by obtain ⟨k1,k2,k3,k4⟩:=h9;go_simp⟩) hS ?_;refine wK (i:=3) (fuel:=14) (v:=.pointer (some ⟨w.heap.size,1,none⟩)) rfl (by kernel_rfl) (by kernel_rfl) (by kernel_rfl) (fun _ _ _ h=>h) (Or.inl ⟨by rfl,fun w' h9=>by obtain ⟨k1,k2,k3,k4⟩:=h9;go_simp⟩) hS ?_;refine wK (i:=4) (fuel:=13) (v:=.int .i64 n) rfl (by kernel_rfl) (by kernel_rfl) (by kernel_rfl) (fun _ _ _ h=>h) (Or.inl ⟨by rfl,fun w' h9=>by obtain ⟨k1,k2,k3,k4⟩:=h9;go_simp⟩) hS ?_;refine wK (i:=7) (fuel:=12) (v:=.pointer (some ⟨w.heap.size,2,none⟩)) rfl (by kernel_rfl) (by kernel_rfl) (by kernel_rfl) (fun _ _ _ h=>h) (Or.inl ⟨by rfl,fun w' h9=>by obtain ⟨k1,k2,k3,k4⟩:=h9;go_simp⟩) hS ?_;refine wK (i:=8) (fuel:=11) (v:=.string nm) rfl (by kernel_rfl) (by kernel_rfl) (by kernel_rfl) (fun _ _ _ h=>h) (Or.inl ⟨by rfl,fun w' h9=>by obtain ⟨k1,k2,k3,k4⟩:=h9;go_simp⟩) hS ?_;refine wK (i:=11) (fuel:=10) (v:=.pointer (some ⟨w.heap.size,3,none⟩)) rfl (by kernel_rfl) (by kernel_rfl) (by kernel_rfl) (fun _ _ _ h=>h) (Or.inl ⟨by rfl,fun w' h9=>by obtain ⟨k1,k2,k3,k4⟩:=h9;go_simp⟩) hS ?_;refine wK (i:=12) (fuel:=9) (v:=.string tx) rfl (by kernel_rfl) (by kernel_rfl) (by kernel_rfl) (fun _ _ _ h=>h) (Or.inl ⟨by rfl,fun w' h9=>by obtain ⟨k1,k2,k3,k4⟩:=h9;go_simp⟩) hS ?_;refine wY (rs:=[2]) (fuel:=8) (by kernel_rfl) (by simp) ?_;refine rC rfl (fun K hK=>?_) rN;go_simp
 go_at_call 83
 refine (C1 _).mono ?_;rintro e w1 ⟨rfl,H1⟩;have G1:=bch G0 H1 (nl _);refine hK.out _ _ (HSS.out _ G1) (fun hS1=>?_);clear hK H1;refine wY (rs:=[5]) (fuel:=7) (by kernel_rfl) (by simp) ?_;refine rC rfl (fun K hK=>?_) rN;go_simp
 go_at_call 83
 refine (C2 _).mono ?_;rintro e w2 ⟨rfl,H2⟩;have G2:=bch G1 H2 (nl _);refine hK.out _ _ (HSS.out _ G2) (fun hS2=>?_);clear hK H2;refine wK (i:=6) (fuel:=6) (v:=.string (t1++t2)) rfl (by kernel_rfl) (by kernel_rfl) (by kernel_rfl) (fun _ _ _ h=>h) (Or.inl ⟨by rfl,fun w' h9=>by obtain ⟨k1,k2,k3,k4⟩:=h9;go_simp⟩) hS2 ?_;refine wY (rs:=[9]) (fuel:=5) (by kernel_rfl) (by simp) ?_;refine rC rfl (fun K hK=>?_) rN;go_simp
 go_at_call 84
 refine (C3 _).mono ?_;rintro e w3 ⟨rfl,H3⟩;have G3:=bch G2 H3 (nl _);refine hK.out _ _ (HSS.out _ G3) (fun hS3=>?_);clear hK H3;refine wK (i:=10) (fuel:=4) (v:=.string (t1++t2++t3)) rfl (by kernel_rfl) (by kernel_rfl) (by kernel_rfl) (fun _ _ _ h=>h) (Or.inl ⟨by rfl,fun w' h9=>by obtain ⟨k1,k2,k3,k4⟩:=h9;go_simp⟩) hS3 ?_;refine wY (rs:=[13]) (fuel:=3) (by kernel_rfl) (by simp) ?_;refine rC rfl (fun K hK=>?_) rN;go_simp
 go_at_call 84
 refine (C4 _).mono ?_;rintro e w4 ⟨rfl,H4⟩;have G4:=bch G3 H4 (nl _);refine hK.out _ _ (HSS.out _ G4) (fun hS4=>?_);clear hK H4;refine wK (i:=14) (fuel:=2) (v:=.string (t1++t2++t3++t4)) rfl (by kernel_rfl) (by kernel_rfl) (by kernel_rfl) (fun _ _ _ h=>h) (Or.inl ⟨by rfl,fun w' h9=>by obtain ⟨k1,k2,k3,k4⟩:=h9;go_simp⟩) hS4 ?_;refine wY (rs:=[15]) (fuel:=1) (by kernel_rfl) (by simp) ?_;refine rC rfl (fun K hK=>?_) rN;go_simp
 go_at_call 82
 refine (C5.out _).mono ?_;rintro e w5 ⟨rfl,H5⟩;have G5:=bch G4 H5 (nl _);refine hK.out _ _ (HSS.out _ G5) (fun hS5=>?_);clear hK H5;refine wY (rs:=[16]) (fuel:=0) (by kernel_rfl) (by simp) ?_;refine rC rfl (fun K hK=>?_) rN;go_simp
 refine hK.out _ _ hS5 (fun _=>?_);clear hK;refine ⟨by kernel_rfl,?_⟩;have B9:=bch B1 G5 (nl _);clear G0 G1 G2 G3 G4 G5 HSS hS hS1 hS2 hS3 hS4 hS5;go_wp2_with fail
 go_ret
 exact ⟨rfl,B9⟩
structure Ey (w:World) (p:Nat) (s:ByteArray) (b:Bool):Prop where
 c0:w.cell? ⟨p,0,none⟩=some (.string s)
 c1:w.cell? ⟨p,1,none⟩=some (.bool b)
 f0:w.frozen? ⟨p,0,none⟩=false
 f1:w.frozen? ⟨p,1,none⟩=false
theorem Ey.lt {w:World} {p:Nat} {s:ByteArray} {b:Bool} (h:Ey w p s b):p<w.heap.size:=World.block_lt_of_cell? w _ h.c0
theorem Ey.lo {w w':World} {p lo:Nat} {s:ByteArray} {b:Bool} (h:Ey w p s b) (G:Below lo w w') (hp:p<lo):Ey w' p s b:=⟨(G.cell (p:=⟨p,0,none⟩) hp).trans h.c0,(G.cell (p:=⟨p,1,none⟩) hp).trans h.c1,(G.frozen (p:=⟨p,0,none⟩) hp).trans h.f0,(G.frozen (p:=⟨p,1,none⟩) hp).trans h.f1⟩
theorem Ey.below {w w':World} {p:Nat} {s:ByteArray} {b:Bool} (h:Ey w p s b) (G:Below w.heap.size w w'):Ey w' p s b:=h.lo G h.lt
theorem Ey.set0 {w:World} {p:Nat} {s:ByteArray} {b:Bool} (h:Ey w p s b) (t:ByteArray):Ey (w.setCell ⟨p,0,none⟩ (.string t)) p t b :=
 ⟨cS _ _ _ h.c0,(cO _ _ _ _ (by intro e;have:=congrArg Addr.off e;simp at this)).trans h.c1,by rw [World.frozen?_setCell];exact h.f0,by rw [World.frozen?_setCell];exact h.f1⟩
theorem Ey.set1 {w:World} {p:Nat} {s:ByteArray} {b:Bool} (h:Ey w p s b) (c:Bool):Ey (w.setCell ⟨p,1,none⟩ (.bool c)) p s c :=
 ⟨(cO _ _ _ _ (by intro e;have:=congrArg Addr.off e;simp at this)).trans h.c0,cS _ _ _ h.c1,by rw [World.frozen?_setCell];exact h.f0,by rw [World.frozen?_setCell];exact h.f1⟩
theorem Ey.low {w:World} {p q:Nat} {s:ByteArray} {b:Bool} (h:Ey w p s b) (hne:p ≠ q) (o:Nat) (v:Value):Ey (w.setCell ⟨q,o,none⟩ v) p s b :=
 ⟨(cO _ _ _ _ (by intro e;have:=congrArg Addr.block e;simp at this;omega)).trans h.c0,(cO _ _ _ _ (by intro e;have:=congrArg Addr.block e;simp at this;omega)).trans h.c1,by rw [World.frozen?_setCell];exact h.f0,by rw [World.frozen?_setCell];exact h.f1⟩
theorem Ey.on {w w':World} {p q:Nat} {s:ByteArray} {b:Bool} (h:Ey w p s b) (g:On q w w') (hne:p ≠ q):Ey w' p s b:=by
 have hb:=g.block p h.lt (by simp;omega);exact ⟨(cB (w:=w) (a:=⟨p,0,none⟩) hb).trans h.c0,(cB (w:=w) (a:=⟨p,1,none⟩) hb).trans h.c1,(fB (w:=w) (a:=⟨p,0,none⟩) hb).trans h.f0,(fB (w:=w) (a:=⟨p,1,none⟩) hb).trans h.f1⟩
theorem Ey.new (w:World) (T:TypeId) (s:ByteArray) (b:Bool):Ey (w.alloc (.cells #[.string s,.bool b] T (0,0))) w.heap.size s b :=
 ⟨cN _ _ _ 0,cN _ _ _ 1,fN _ _ _ _ rfl,fN _ _ _ _ rfl⟩
theorem On.put {p:Nat} {w w':World} (h:On p w w') (o:Nat) (v:Value):On p w (w'.setCell ⟨p,o,none⟩ v):=h.trans (Zb w' ⟨p,o,none⟩ v)
theorem Zdw (s:ByteArray) (b:Bool) (p:Nat) (w:World) (h:Ey w p s b) (hs:s.size<=281474976710656) :
 Calls Tryz.prog 77 #[.pointer (some ⟨p,0,none⟩)] w fun e w'=>e=.returned (.int .i64 ((Im.eNum (s,b)).1:Nat))/\On p w w'/\Ey w' p (Im.eNum (s,b)).2.1 (Im.eNum (s,b)).2.2:=by
 have C1:=Zck s w hs;have c0:=h.c0;have HB:Hid (∀ w',Below w.heap.size w w'->Ey w' p s b):=fun w' h9=>h.below h9
 unfold Im.eNum;dsimp only;generalize Nm.num s=n at *;generalize Nm.rest s=r at *;generalize Nm.is s=i at *;clear h hs
 cases b <;> cases i
 all_goals
  simp only [Bool.not_true,Bool.not_false,Bool.or_true,Bool.or_false];go_enter Tryz.func77,Tryz.ntmps77
  go_wp2_with fail
  refine C1.mono ?_;rintro e w1 ⟨rfl,G⟩;have E1:=HB.out _ G;have c1:=E1.c1;have f1:=E1.f1
 ·have E2:=E1.set1 true;have k0:=E2.c0;have z0:=E2.f0;go_wp2_with fail
  go_ret
  exact ⟨rfl,((On.of G).put _ _).put _ _,E2.set0 _⟩
 ·have E2:=E1.set1 false;have k0:=E2.c0;have z0:=E2.f0;go_wp2_with fail
  go_ret
  exact ⟨rfl,((On.of G).put _ _).put _ _,E2.set0 _⟩
 ·have E2:=E1.set1 true;have k0:=E2.c0;have z0:=E2.f0;go_wp2_with fail
  go_ret
  exact ⟨rfl,((On.of G).put _ _).put _ _,E2.set0 _⟩
 ·have E2:=E1.set1 true;have k0:=E2.c0;have z0:=E2.f0;go_wp2_with fail
  go_ret
  exact ⟨rfl,((On.of G).put _ _).put _ _,E2.set0 _⟩
namespace Im
theorem ZfF (s:ByteArray) (b:Bool):(eNum (s,b)).1<=2147483647/\(eNum (s,b)).2.1.size<=s.size:=by
 cases h:rNum s with
 | none=>rw [ZcE h];exact ⟨by omega,by show 0<=_;omega⟩
 | some x =>
  obtain ⟨n,r⟩:=x;rw [Zaj h];exact ⟨((Zay s n r).1 h).1,Zlg Zay h⟩
theorem Zoo (s:ByteArray) (b:Bool):(eTxt (s,b)).1.size<=s.size/\(eTxt (s,b)).2.1.size<=s.size:=by
 have h:=(ZfF s b).2;unfold eTxt;split
 ·exact ⟨by show 0<=_;omega,h⟩
 ·exact ⟨by simp;omega,by simp;omega⟩
end Im
theorem Zcl (s:ByteArray) (b:Bool) (p:Nat) (w:World) (h:Ey w p s b) (hs:s.size<=281474976710656) :
 Calls Tryz.prog 78 #[.pointer (some ⟨p,0,none⟩)] w fun e w'=>e=.returned (.string (Im.eTxt (s,b)).1)/\On p w w'/\Ey w' p (Im.eTxt (s,b)).2.1 (Im.eTxt (s,b)).2.2:=by
 have C1:=Zdw s b p w h hs;obtain ⟨l1,l2⟩:=Im.ZfF s b;clear h;by_cases hlt:(Im.eNum (s,b)).2.1.size<(Im.eNum (s,b)).1
 ·have e1:Im.eTxt (s,b)=(⟨#[]⟩,(Im.eNum (s,b)).2.1,true):=by unfold Im.eTxt;rw [if_pos hlt]
  rw [e1];clear e1;dsimp only;generalize (Im.eNum (s,b)).1=n at *;generalize (Im.eNum (s,b)).2.1=r at *;generalize (Im.eNum (s,b)).2.2=c at *;have d1:decide ((n:Int) > (r.size:Int))=true:=zdT (by omega);have d1':decide (r.size<n)=true:=zdT hlt;have d1'':decide ((r.size:Int)<(n:Int))=true:=zdT (by omega);go_enter Tryz.func78,Tryz.ntmps78
  go_wp2_with fail
  refine C1.mono ?_;rintro e w1 ⟨rfl,G,E1⟩;have k0:=E1.c0;have k1:=E1.c1;have f1:=E1.f1;go_wp2_with fail
  go_ret
  exact ⟨rfl,G.put _ _,E1.set1 _⟩
 ·have e1:Im.eTxt (s,b)=((Im.eNum (s,b)).2.1.extract 0 (Im.eNum (s,b)).1,(Im.eNum (s,b)).2.1.extract (Im.eNum (s,b)).1 (Im.eNum (s,b)).2.1.size,(Im.eNum (s,b)).2.2):=by unfold Im.eTxt;rw [if_neg hlt]
  rw [e1];clear e1;dsimp only;generalize (Im.eNum (s,b)).1=n at *;generalize (Im.eNum (s,b)).2.1=r at *;generalize (Im.eNum (s,b)).2.2=c at *;have d1:decide ((n:Int) > (r.size:Int))=false:=dF (by omega);have d1':decide (r.size<n)=false:=dF hlt;have d1'':decide ((r.size:Int)<(n:Int))=false:=dF (by omega);have hle:n<=r.size:=by omega
  have hli:(n:Int)<=(r.size:Int):=by omega
  go_enter Tryz.func78,Tryz.ntmps78
  go_wp2_with fail
  refine C1.mono ?_;rintro e w1 ⟨rfl,G,E1⟩;have k0:=E1.c0;have f0:=E1.f0;go_wp2_with fail
  go_ret
  exact ⟨rfl,G.put _ _,E1.set0 _⟩
namespace Im
end Im
theorem On.low {p:Nat} {w w1 w2:World} (h:On p w w1) {lo:Nat} (hl:w.heap.size<=lo) (g:Below lo w1 w2):On p w w2 :=
 ⟨g.os.trans h.os,g.tape.trans h.tape,g.output.trans h.output,nt h.size g.size,fun k hk hne=>(g.block k (by omega)).trans (h.block k hk hne)⟩
theorem Rdr.lo {w1 w2:World} {p lo:Nat} {s:ByteArray} (h:Rdr w1 p s) (g:Below lo w1 w2) (hp:p<lo):Rdr w2 p s :=
 ⟨(g.cell (p:=⟨p,0,none⟩) hp).trans h.c,(g.frozen (p:=⟨p,0,none⟩) hp).trans h.f⟩
theorem CpS.on {w0 wr w':World} {p C lo:Nat} {v1 v2:Value} {n1 n2:Nat} {xs1 xs2:List Value} (h:CpS w0 wr C lo v1 v2 n1 n2 xs1 xs2) (g:On p wr w') (hp:p<lo):CpS w' w' C lo v1 v2 n1 n2 xs1 xs2:=by
 have hC:=h.hC;have hb:=g.block C h.hb (by simp;omega);have e1:v1.ownBlock ≠ some p:=fun e=>by have:=(h.o1.lt p e).1;omega
 have e2:v2.ownBlock ≠ some p:=fun e=>by have:=(h.o2.lt p e).1;omega
 refine ⟨(cB (w:=wr) (a:=⟨C,0,none⟩) hb).trans h.c0,(cB (w:=wr) (a:=⟨C,1,none⟩) hb).trans h.c1,(fB (w:=wr) (a:=⟨C,0,none⟩) hb).trans h.f0,(fB (w:=wr) (a:=⟨C,1,none⟩) hb).trans h.f1,h.o1.kept g (.inr e1),h.o2.kept g (.inr e2),h.ne,h.a1,h.a2,h.hC,nT h.hb g.size,bR _ _⟩
structure RS (w wr:World) (p:Nat) (v1 v2:Value) (n1 n2:Nat) (xs1 xs2:List Value) (r:ByteArray):Prop where
 s:CpS wr wr (w.heap.size+1) (w.heap.size+1) v1 v2 n1 n2 xs1 xs2
 g:On p w wr
 r:Rdr wr p r
 x:Bx wr w.heap.size (.slice none 0 0) (.slice none 0 0)
 hp:p<w.heap.size
theorem RS.on {w wr w':World} {p:Nat} {v1 v2:Value} {n1 n2:Nat} {xs1 xs2:List Value} {r r':ByteArray} (h:RS w wr p v1 v2 n1 n2 xs1 xs2 r) (g:On p wr w') (hr:Rdr w' p r'):RS w w' p v1 v2 n1 n2 xs1 xs2 r':=by
 have hp:=h.hp;have hb:=g.block w.heap.size h.x.lt (by simp;omega);exact ⟨h.s.on g (by omega),h.g.past g,hr,⟨(cB (w:=wr) (a:=⟨w.heap.size,0,none⟩) hb).trans h.x.c0,(cB (w:=wr) (a:=⟨w.heap.size,1,none⟩) hb).trans h.x.c1,(fB (w:=wr) (a:=⟨w.heap.size,0,none⟩) hb).trans h.x.f0,(fB (w:=wr) (a:=⟨w.heap.size,1,none⟩) hb).trans h.x.f1,nT h.x.lt g.size⟩,hp⟩
theorem RS.next {w wr wq:World} {p:Nat} {v1 v2 u1 u2:Value} {n1 n2 m1 m2:Nat} {xs1 xs2 ys1 ys2:List Value} {r:ByteArray} (h:RS w wr p v1 v2 n1 n2 xs1 xs2 r) (c:CpS wr wq (w.heap.size+1) (w.heap.size+1) u1 u2 m1 m2 ys1 ys2):RS w wq p u1 u2 m1 m2 ys1 ys2 r:=by
 have hp:=h.hp;have G:=c.bel;exact ⟨⟨c.c0,c.c1,c.f0,c.f1,c.o1,c.o2,c.ne,c.a1,c.a2,c.hC,c.hb,bR _ _⟩,h.g.low (by omega) G,h.r.lo G (by omega),⟨(G.cell (p:=⟨w.heap.size,0,none⟩) (by simp)).trans h.x.c0,(G.cell (p:=⟨w.heap.size,1,none⟩) (by simp)).trans h.x.c1,(G.frozen (p:=⟨w.heap.size,0,none⟩) (by simp)).trans h.x.f0,(G.frozen (p:=⟨w.heap.size,1,none⟩) (by simp)).trans h.x.f1,nT h.x.lt G.size⟩,hp⟩
theorem RS.drew {w wr:World} {p:Nat} {v1 v2:Value} {n1 n2:Nat} {xs1 xs2:List Value} {r:ByteArray} (h:RS w wr p v1 v2 n1 n2 xs1 xs2 r):RS w wr.drew p v1 v2 n1 n2 xs1 xs2 r:=h.next (h.s.below ((Below.refl _ _).drew))
theorem Ey.grown {w w':World} {p:Nat} {x:Option Nat} {s:ByteArray} {b:Bool} (h:Ey w p s b) (g:w.grownBy w' x) (hne:some p ≠ x):Ey w' p s b:=by
 have hb:=g.block p h.lt hne;exact ⟨(cB (w:=w) (a:=⟨p,0,none⟩) hb).trans h.c0,(cB (w:=w) (a:=⟨p,1,none⟩) hb).trans h.c1,(fB (w:=w) (a:=⟨p,0,none⟩) hb).trans h.f0,(fB (w:=w) (a:=⟨p,1,none⟩) hb).trans h.f1⟩
theorem Bx.grown {w w':World} {b:Nat} {x:Option Nat} {u v:Value} (h:Bx w b u v) (g:w.grownBy w' x) (hne:some b ≠ x):Bx w' b u v:=by
 have hb:=g.block b h.lt hne;exact ⟨(cB (w:=w) (a:=⟨b,0,none⟩) hb).trans h.c0,(cB (w:=w) (a:=⟨b,1,none⟩) hb).trans h.c1,(fB (w:=w) (a:=⟨b,0,none⟩) hb).trans h.f0,(fB (w:=w) (a:=⟨b,1,none⟩) hb).trans h.f1,nT h.lt g.size⟩
theorem CpS.grown {w0 wr w':World} {C lo:Nat} {x:Option Nat} {v1 v2:Value} {n1 n2:Nat} {xs1 xs2:List Value} (h:CpS w0 wr C lo v1 v2 n1 n2 xs1 xs2) (g:wr.grownBy w' x) (hC:some C ≠ x) (e1:v1.ownBlock ≠ x\/v1.ownBlock=none) (e2:v2.ownBlock ≠ x\/v2.ownBlock=none):CpS w' w' C lo v1 v2 n1 n2 xs1 xs2:=by
 have hb:=g.block C h.hb hC;exact ⟨(cB (w:=wr) (a:=⟨C,0,none⟩) hb).trans h.c0,(cB (w:=wr) (a:=⟨C,1,none⟩) hb).trans h.c1,(fB (w:=wr) (a:=⟨C,0,none⟩) hb).trans h.f0,(fB (w:=wr) (a:=⟨C,1,none⟩) hb).trans h.f1,h.o1.kept g e1.symm,h.o2.kept g e2.symm,h.ne,h.a1,h.a2,h.hC,nT h.hb g.size,bR _ _⟩
theorem ZhH {B:Nat} {w wr w':World} {q:Nat} (h:Below B w wr) (g:wr.grownBy w' (some q)) (hB:B<=w.heap.size) (hq:B<=q):Below B w w' :=
 ⟨g.os.trans h.os,g.tape.trans h.tape,g.output.trans h.output,nt h.size g.size,fun k hk=>(g.block k (by have:=h.size;omega) (by simp;omega)).trans (h.block k hk)⟩
structure ES (w wr:World) (v1 v2:Value) (n1 n2:Nat) (xs1 xs2:List Value) (s:ByteArray) (b:Bool):Prop where
 cp:CpS wr wr (w.heap.size+1) (w.heap.size+1) v1 v2 n1 n2 xs1 xs2
 g:Below w.heap.size w wr
 e:Ey wr (w.heap.size+2) s b
 x:Bx wr w.heap.size (.slice none 0 0) (.slice none 0 0)
 m1:v1.ownBlock ≠ some (w.heap.size+2)
 m2:v2.ownBlock ≠ some (w.heap.size+2)
theorem ES.on {w wr w':World} {v1 v2:Value} {n1 n2:Nat} {xs1 xs2:List Value} {s s':ByteArray} {b b':Bool} (h:ES w wr v1 v2 n1 n2 xs1 xs2 s b) (g:On (w.heap.size+2) wr w') (he:Ey w' (w.heap.size+2) s' b'):ES w w' v1 v2 n1 n2 xs1 xs2 s' b' :=
 ⟨h.cp.grown g (by simp) (.inl h.m1) (.inl h.m2),ZhH h.g g (nl _) (by omega),he,h.x.grown g (by simp),h.m1,h.m2⟩
theorem ES.below {w wr w':World} {v1 v2:Value} {n1 n2:Nat} {xs1 xs2:List Value} {s:ByteArray} {b:Bool} (h:ES w wr v1 v2 n1 n2 xs1 xs2 s b) (G:Below wr.heap.size wr w'):ES w w' v1 v2 n1 n2 xs1 xs2 s b:=by
 have c:=h.cp.below G;exact ⟨⟨c.c0,c.c1,c.f0,c.f1,c.o1,c.o2,c.ne,c.a1,c.a2,c.hC,c.hb,bR _ _⟩,bch h.g G (nl _),h.e.below G,h.x.next G,h.m1,h.m2⟩
theorem ES.far {w wr:World} {v1 v2:Value} {n1 n2:Nat} {xs1 xs2:List Value} {s:ByteArray} {b:Bool} (h:ES w wr v1 v2 n1 n2 xs1 xs2 s b) {q:Nat} (hq:w.heap.size+2<q) (e1:v1.ownBlock ≠ some q) (e2:v2.ownBlock ≠ some q) (o:Nat) (v:Value):ES w (wr.setCell ⟨q,o,none⟩ v) v1 v2 n1 n2 xs1 xs2 s b:=by
 have g:wr.grownBy (wr.setCell ⟨q,o,none⟩ v) (some q):=Zb wr ⟨q,o,none⟩ v;exact ⟨h.cp.grown g (by simp;omega) (.inl e1) (.inl e2),ZhH h.g g (nl _) (by omega),h.e.grown g (by simp;omega),h.x.grown g (by simp;omega),h.m1,h.m2⟩
theorem Bx.lo {w w':World} {b lo:Nat} {x y:Value} (h:Bx w b x y) (G:Below lo w w') (hb:b<lo):Bx w' b x y :=
 ⟨(G.cell (p:=⟨b,0,none⟩) hb).trans h.c0,(G.cell (p:=⟨b,1,none⟩) hb).trans h.c1,(G.frozen (p:=⟨b,0,none⟩) hb).trans h.f0,(G.frozen (p:=⟨b,1,none⟩) hb).trans h.f1,nT h.lt G.size⟩
theorem ES.put1 {w wr w2:World} {g cap n1 m n2:Nat} {v1 v2:Value} {xs1 ys xs2:List Value} {o:Obj} {s:ByteArray} {b:Bool} (h:ES w wr v1 v2 n1 n2 xs1 xs2 s b) (hg:(wr.alloc o).grownBy w2 v1.ownBlock)
 (ho:w2.ownsRow (w.heap.size+1) 9 1 (.slice (some ⟨g,0,none⟩) m cap) m ys) (hl:v1.ownBlock=some g\/g=(wr.alloc o).heap.size) :
 (w2.cell? ⟨w.heap.size+1,0,none⟩=some v1/\w2.frozen? ⟨w.heap.size+1,0,none⟩=false)/\ES w (w2.setCell ⟨w.heap.size+1,0,none⟩ (.slice (some ⟨g,0,none⟩) m cap)) (.slice (some ⟨g,0,none⟩) m cap) v2 m n2 ys xs2 s b:=by
 obtain ⟨q,S⟩:=(h.cp.put1 hg ho hl).1;have hlt:=h.e.lt
 have hne:g ≠ w.heap.size+2:=by
  rcases hl with hl | hl
  ·rintro rfl;exact h.m1 hl
  ·simp at hl;omega
 have E2:Ey w2 (w.heap.size+2) s b:=(h.e.below (Za wr o)).grown hg (fun e=>h.m1 e.symm);exact ⟨q,⟨S.c0,S.c1,S.f0,S.f1,S.o1,S.o2,S.ne,S.a1,S.a2,S.hC,S.hb,bR _ _⟩,h.g.trans (S.bel.mono (by omega)),E2.low (by omega) _ _,h.x.lo S.bel (by omega),fun e=>hne (by simpa [Value.ownBlock] using e),h.m2⟩
theorem ES.put2 {w wr w2:World} {g cap n1 m n2:Nat} {v1 v2:Value} {xs1 ys xs2:List Value} {o:Obj} {s:ByteArray} {b:Bool} (h:ES w wr v1 v2 n1 n2 xs1 xs2 s b) (hg:(wr.alloc o).grownBy w2 v2.ownBlock)
 (ho:w2.ownsRow (w.heap.size+1) 46 5 (.slice (some ⟨g,0,none⟩) m cap) m ys) (hl:v2.ownBlock=some g\/g=(wr.alloc o).heap.size) :
 (w2.cell? ⟨w.heap.size+1,1,none⟩=some v2/\w2.frozen? ⟨w.heap.size+1,1,none⟩=false)/\ES w (w2.setCell ⟨w.heap.size+1,1,none⟩ (.slice (some ⟨g,0,none⟩) m cap)) v1 (.slice (some ⟨g,0,none⟩) m cap) n1 m xs1 ys s b:=by
 obtain ⟨q,S⟩:=h.cp.put2 hg ho hl;have hlt:=h.e.lt
 have hne:g ≠ w.heap.size+2:=by
  rcases hl with hl | hl
  ·rintro rfl;exact h.m2 hl
  ·simp at hl;omega
 have E2:Ey w2 (w.heap.size+2) s b:=(h.e.below (Za wr o)).grown hg (fun e=>h.m2 e.symm);exact ⟨q,⟨S.c0,S.c1,S.f0,S.f1,S.o1,S.o2,S.ne,S.a1,S.a2,S.hC,S.hb,bR _ _⟩,h.g.trans (S.bel.mono (by omega)),E2.low (by omega) _ _,h.x.lo S.bel (by omega),h.m1,fun e=>hne (by simpa [Value.ownBlock] using e)⟩
def ZlV (r:Option (Im.Act × ByteArray)):Value:=match r with
 | none=>.tuple #[.agg #[.int .i64 0,.int .i64 0,.string ⟨#[]⟩,.string ⟨#[]⟩],.string ⟨#[]⟩,.bool false]
 | some (x,q)=>.tuple #[.agg #[.int .i64 x.kind,.int .i64 x.n,.string x.name,.string x.text],.string q,.bool true]
namespace Im
theorem Zug {t q1 q2 q3 q4 a b:ByteArray} {c1 c2 c3 c4:Bool} {k n:Nat} (h1:eNum (t,false)=(k,(q1,c1))) (h2:eNum (q1,c1)=(n,(q2,c2))) (h3:eTxt (q2,c2)=(a,(q3,c3))) (h4:eTxt (q3,c3)=(b,(q4,c4))):eIn t=(⟨(k:Nat),(n:Nat),a,b⟩,(q4,c4)):=by
 unfold eIn;simp only [h1,h2,h3,h4]
theorem Ztu {s t q r:ByteArray} {c d:Bool} {x:Act} (h0:eTxt (s,false)=(t,(q,c))) (h1:eIn t=(x,(r,d))):eAct s=if c=false/\d=false/\r.size=0/\actE x=0 then some (x,q) else none:=by
 unfold eAct;rw [h0];simp only;rw [h1]
end Im
theorem ZiZ (s:ByteArray) (w:World) (hs:s.size<=16384) :
 Calls Tryz.prog 86 #[.string s] w fun e w'=>e=.returned (ZlV (Im.eAct s))/\Below w.heap.size w w':=by
 obtain ⟨t,q,c,h0⟩:∃ t' q' c',Im.eTxt (s,false)=(t',(q',c')):=⟨_,_,_,rfl⟩
 obtain ⟨k,q1,c1,h1⟩:∃ t' q' c',Im.eNum (t,false)=(t',(q',c')):=⟨_,_,_,rfl⟩
 obtain ⟨n,q2,c2,h2⟩:∃ t' q' c',Im.eNum (q1,c1)=(t',(q',c')):=⟨_,_,_,rfl⟩
 obtain ⟨nm,q3,c3,h3⟩:∃ t' q' c',Im.eTxt (q2,c2)=(t',(q',c')):=⟨_,_,_,rfl⟩
 obtain ⟨tx,q4,c4,h4⟩:∃ t' q' c',Im.eTxt (q3,c3)=(t',(q',c')):=⟨_,_,_,rfl⟩
 have g0:=Im.Zoo s false;have g1:=Im.ZfF t false;have g2:=Im.ZfF q1 c1;have g3:=Im.Zoo q2 c2;rw [h0] at g0;rw [h1] at g1;rw [h2] at g2;rw [h3] at g3;simp only at g0 g1 g2 g3;have K0:=fun w' h=>Zcl s false (w.heap.size+1) w' h (by omega)
 have K1:=fun w' p h=>Zdw t false p w' h (by omega)
 have K2:=fun w' p h=>Zdw q1 c1 p w' h (by omega)
 have K3:=fun w' p h=>Zcl q2 c2 p w' h (by omega)
 have K4:=fun w' p h=>Zcl q3 c3 p w' h (by omega)
 simp only [h0,h1,h2,h3,h4] at K0 K1 K2 K3 K4;have hA:=Im.Ztu h0 (Im.Zug h1 h2 h3 h4);have CE:=fun w'=>ZdC (k:Nat) (n:Nat) nm tx w'
 have HN:Hid (¬ (c=false/\c4=false/\q4.size=0/\Im.actE ⟨(k:Nat),(n:Nat),nm,tx⟩=0)->ZlV (Im.eAct s)=.tuple #[.agg #[.int .i64 0,.int .i64 0,.string ⟨#[]⟩,.string ⟨#[]⟩],.string ⟨#[]⟩,.bool false]):=fun h9=>by rw [hA,if_neg h9];rfl
 have HY:Hid ((c=false/\c4=false/\q4.size=0/\Im.actE ⟨(k:Nat),(n:Nat),nm,tx⟩=0)->ZlV (Im.eAct s)=.tuple #[.agg #[.int .i64 (k:Nat),.int .i64 (n:Nat),.string nm,.string tx],.string q,.bool true]):=fun h9=>by rw [hA,if_pos h9];rfl
 clear h0 h1 h2 h3 h4 hA g0 g1 g2 g3;generalize ZlV (Im.eAct s)=RV at *;generalize Im.actE ⟨(k:Nat),(n:Nat),nm,tx⟩=AE at *;generalize (k:Int)=ki at *;generalize (n:Int)=ni at *;have B1:=Za w (.cells #[.int .i64 0,.int .i64 0,.string ⟨#[]⟩,.string ⟨#[]⟩] 54 (0,0));have Y1:=XB.new w 54 0 0 ⟨#[]⟩ ⟨#[]⟩;have G2:=Za (w.alloc (.cells #[.int .i64 0,.int .i64 0,.string ⟨#[]⟩,.string ⟨#[]⟩] 54 (0,0))) (.cells #[.string s,.bool false] 108 (0,0));have E:=Ey.new (w.alloc (.cells #[.int .i64 0,.int .i64 0,.string ⟨#[]⟩,.string ⟨#[]⟩] 54 (0,0))) 108 s false;rw [show (w.alloc (.cells #[.int .i64 0,.int .i64 0,.string ⟨#[]⟩,.string ⟨#[]⟩] 54 (0,0))).heap.size=w.heap.size+1 by simp] at E;have Y:=Y1.next G2;have B:=bch B1 G2 (nl _);clear B1 Y1 G2;go_enter Tryz.func86,Tryz.ntmps86
 go_wp2_with fail
 generalize ((w.alloc (.cells #[.int .i64 0,.int .i64 0,.string ⟨#[]⟩,.string ⟨#[]⟩] 54 (0,0))).alloc (.cells #[.string s,.bool false] 108 (0,0)))=w0 at *;have hw0:=E.lt;refine (K0 _ E).mono ?_;rintro e w1 ⟨rfl,G,E'⟩;have Y':=Y.on G (by omega);have B':=B.trans (G.under (lo:=w.heap.size) (by omega) (by omega));have GA:=Za w1 (.cells #[.string t,.bool false] 108 (0,0));have F:=Ey.new w1 108 t false;have hp2:=E'.lt;have E:=E'.below GA;have Y:=Y'.next GA;have B:=bch B' GA (nl _);clear K0 G E' Y' B' GA;go_wp2_with fail
 generalize (w1.alloc (.cells #[.string t,.bool false] 108 (0,0)))=w2 at *;generalize w1.heap.size=p2 at *;refine (K1 _ _ F).mono ?_;rintro e w3 ⟨rfl,G,F'⟩;have E':=E.on G (by omega);have Y':=Y.on G (by omega);have B':=B.trans (G.under (lo:=w.heap.size) (by omega) (by have:=B.size;omega));have GA:=Za w3 (.cells #[.int .i64 ki,.int .i64 0,.string ⟨#[]⟩,.string ⟨#[]⟩] 54 (0,0));have X:=XB.new w3 54 ki 0 ⟨#[]⟩ ⟨#[]⟩;have hbx:=F'.lt;have F:=F'.below GA;have E:=E'.below GA;have Y:=Y'.next GA;have B:=bch B' GA (nl _);clear K1 G E' Y' B' F' GA;go_wp2_with fail
 generalize (w3.alloc (.cells #[.int .i64 ki,.int .i64 0,.string ⟨#[]⟩,.string ⟨#[]⟩] 54 (0,0)))=v0 at *;generalize w3.heap.size=bx at *;refine (K2 _ _ F).mono ?_;rintro e y0 ⟨rfl,G,F'⟩;have X':=X.on G (by omega);have c9:=X'.c1;have f9:=X'.f 1;have X:=X'.s1 ni;have F:=F'.low (q:=bx) (by omega) 1 (.int .i64 ni);have E:=(E.on G (by omega)).low (q:=bx) (by omega) 1 (.int .i64 ni);have Y:=(Y.on G (by omega)).far (p:=bx) (o:=1) (by omega) (.int .i64 ni);have B:=(B.trans (G.under (lo:=w.heap.size) (by omega) (by have:=B.size;omega))).setCell (p:=⟨bx,1,none⟩) (by simp;omega) (.int .i64 ni);clear K2 G F' X';go_wp2_with fail
 clear c9 f9;generalize (y0.setCell ⟨bx,1,none⟩ (.int .i64 ni))=v1 at *;refine (K3 _ _ F).mono ?_;rintro e y1 ⟨rfl,G,F'⟩;have X':=X.on G (by omega);have c9:=X'.c2;have f9:=X'.f 2;have X:=X'.s2 nm;have F:=F'.low (q:=bx) (by omega) 2 (.string nm);have E:=(E.on G (by omega)).low (q:=bx) (by omega) 2 (.string nm);have Y:=(Y.on G (by omega)).far (p:=bx) (o:=2) (by omega) (.string nm);have B:=(B.trans (G.under (lo:=w.heap.size) (by omega) (by have:=B.size;omega))).setCell (p:=⟨bx,2,none⟩) (by simp;omega) (.string nm);clear K3 G F' X';go_wp2_with fail
 clear c9 f9;generalize (y1.setCell ⟨bx,2,none⟩ (.string nm))=v2 at *;refine (K4 _ _ F).mono ?_;rintro e y2 ⟨rfl,G,F'⟩;have X':=X.on G (by omega);have c9:=X'.c3;have f9:=X'.f 3;have X:=X'.s3 tx;have F:=F'.low (q:=bx) (by omega) 3 (.string tx);have E:=(E.on G (by omega)).low (q:=bx) (by omega) 3 (.string tx);have Y:=(Y.on G (by omega)).far (p:=bx) (o:=3) (by omega) (.string tx);have B:=(B.trans (G.under (lo:=w.heap.size) (by omega) (by have:=B.size;omega))).setCell (p:=⟨bx,3,none⟩) (by simp;omega) (.string tx);clear K4 G F' X';go_upto_region 7 with fail
 clear c9 f9;generalize (y2.setCell ⟨bx,3,none⟩ (.string tx))=v3 at *;have e1:=E.c1;have f1:=F.c1;have f0:=F.c0
 cases c with
 | true =>
  have HR:=Zak (HN.out (fun h=>by cases h.1));have Y2:=Y.set 0 0 ⟨#[]⟩ ⟨#[]⟩;have B2:=Zav B (b:=w.heap.size) (nl _) (.int .i64 0) (.int .i64 0) (.string ⟨#[]⟩) (.string ⟨#[]⟩);obtain ⟨y0,y1,y2,y3,yf⟩:=Y;have z0:=yf 0;have z1:=yf 1;have z2:=yf 2;have z3:=yf 3;clear yf B HN HY;go_wp2_with fail
  clear y0 y1 y2 y3 z0 z1 z2 z3;obtain ⟨y0,y1,y2,y3,_⟩:=Y2;generalize ((((v3.setCell ⟨w.heap.size,0,none⟩ (.int .i64 0)).setCell ⟨w.heap.size,1,none⟩ (.int .i64 0)).setCell ⟨w.heap.size,2,none⟩ (.string ⟨#[]⟩)).setCell ⟨w.heap.size,3,none⟩ (.string ⟨#[]⟩))=wz at *;exact bodyPost_ret (v:=.tuple #[.agg #[.int .i64 0,.int .i64 0,.string ⟨#[]⟩,.string ⟨#[]⟩],.string ⟨#[]⟩,.bool false]) (by simp [results,Tryz.results86,go_sem,y0,y1,y2,y3]) rfl ⟨by rw [HR.out],B2⟩
 | false =>
  cases c4 with
  | true =>
   have HR:=Zak (HN.out (fun h=>by cases h.2.1));have Y2:=Y.set 0 0 ⟨#[]⟩ ⟨#[]⟩;have B2:=Zav B (b:=w.heap.size) (nl _) (.int .i64 0) (.int .i64 0) (.string ⟨#[]⟩) (.string ⟨#[]⟩);obtain ⟨y0,y1,y2,y3,yf⟩:=Y;have z0:=yf 0;have z1:=yf 1;have z2:=yf 2;have z3:=yf 3;clear yf B HN HY;go_wp2_with fail
   clear y0 y1 y2 y3 z0 z1 z2 z3;obtain ⟨y0,y1,y2,y3,_⟩:=Y2;generalize ((((v3.setCell ⟨w.heap.size,0,none⟩ (.int .i64 0)).setCell ⟨w.heap.size,1,none⟩ (.int .i64 0)).setCell ⟨w.heap.size,2,none⟩ (.string ⟨#[]⟩)).setCell ⟨w.heap.size,3,none⟩ (.string ⟨#[]⟩))=wz at *;exact bodyPost_ret (v:=.tuple #[.agg #[.int .i64 0,.int .i64 0,.string ⟨#[]⟩,.string ⟨#[]⟩],.string ⟨#[]⟩,.bool false]) (by simp [results,Tryz.results86,go_sem,y0,y1,y2,y3]) rfl ⟨by rw [HR.out],B2⟩
  | false =>
   by_cases hz:q4.size=0
   ·obtain rfl:q4=⟨#[]⟩:=by
     apply Nm.ZG;rw [Im.Zj] at hz;exact lZ.1 hz
    obtain ⟨x0,x1,x2,x3,_⟩:=id X;go_wp2_with fail
    clear x0 x1 x2 x3;refine (CE _).mono ?_;rintro e w9 ⟨rfl,G⟩;have X:=X.next G;have E:=E.below G;have Y:=Y.next G;have B:=bch B G (nl _);clear G CE f0 f1 e1 F;by_cases hE:AE=0
    ·have dE:(AE == 0)=true:=by simpa using hE
     have HR:=Zak (HY.out ⟨trivial,trivial,rfl,hE⟩);subst hE;go_wp2_with fail
     have HS0:Hid (∀ w',Below w9.heap.size w9 w'->(fun w':World=>w'.cell? ⟨bx,0,none⟩=some (.int .i64 ki)/\w'.cell? ⟨bx,1,none⟩=some (.int .i64 ni)/\w'.cell? ⟨bx,2,none⟩=some (.string nm)/\w'.cell? ⟨bx,3,none⟩=some (.string tx)/\w'.cell? ⟨w.heap.size+1,0,none⟩=some (.string q)) w'):=fun w' h9=>⟨(X.next h9).c0,(X.next h9).c1,(X.next h9).c2,(X.next h9).c3,(E.below h9).c0⟩
     have Y2:=Y.set ki ni nm tx;have B2:=Zav B (b:=w.heap.size) (nl _) (.int .i64 ki) (.int .i64 ni) (.string nm) (.string tx);have X2:=(((X.far (p:=w.heap.size) (o:=0) (by omega) (.int .i64 ki)).far (p:=w.heap.size) (o:=1) (by omega) (.int .i64 ni)).far (p:=w.heap.size) (o:=2) (by omega) (.string nm)).far (p:=w.heap.size) (o:=3) (by omega) (.string tx);have E2:=(((E.low (q:=w.heap.size) (by omega) 0 (.int .i64 ki)).low (q:=w.heap.size) (by omega) 1 (.int .i64 ni)).low (q:=w.heap.size) (by omega) 2 (.string nm)).low (q:=w.heap.size) (by omega) 3 (.string tx);obtain ⟨y0,y1,y2,y3,yf⟩:=Y;have z0:=yf 0;have z1:=yf 1;have z2:=yf 2;have z3:=yf 3;clear yf B HN HY;have hS9:=HS0.out _ ((bR w9.heap.size w9).drew);refine wp_region_held_drew (S:=fun w'=>w'.cell? ⟨bx,0,none⟩=some (.int .i64 ki)/\w'.cell? ⟨bx,1,none⟩=some (.int .i64 ni)/\w'.cell? ⟨bx,2,none⟩=some (.string nm)/\w'.cell? ⟨bx,3,none⟩=some (.string tx)/\w'.cell? ⟨w.heap.size+1,0,none⟩=some (.string q)) (by kernel_rfl) hS9 (fun hS=>?_);refine wK (i:=0) (fuel:=7) (v:=.agg #[.int .i64 ki,.int .i64 ni,.string nm,.string tx]) rfl (by kernel_rfl) (by kernel_rfl) (by kernel_rfl) (fun _ _ _ h=>h) (Or.inl ⟨by rfl,fun w' h9=>by obtain ⟨k1,k2,k3,k4,k5⟩:=h9;go_simp⟩) hS ?_;refine wK (i:=1) (fuel:=6) (v:=.pointer (some ⟨w.heap.size+1,0,none⟩)) rfl (by kernel_rfl) (by kernel_rfl) (by kernel_rfl) (fun _ _ _ h=>h) (Or.inl ⟨by rfl,fun w' h9=>by obtain ⟨k1,k2,k3,k4,k5⟩:=h9;go_simp⟩) hS ?_;refine wK (i:=2) (fuel:=5) (v:=.pointer (some ⟨w.heap.size+1,0,none⟩)) rfl (by kernel_rfl) (by kernel_rfl) (by kernel_rfl) (fun _ _ _ h=>h) (Or.inl ⟨by rfl,fun w' h9=>by obtain ⟨k1,k2,k3,k4,k5⟩:=h9;go_simp⟩) hS ?_;refine wK (i:=3) (fuel:=4) (v:=.pointer (some ⟨w.heap.size+1,0,none⟩)) rfl (by kernel_rfl) (by kernel_rfl) (by kernel_rfl) (fun _ _ _ h=>h) (Or.inl ⟨by rfl,fun w' h9=>by obtain ⟨k1,k2,k3,k4,k5⟩:=h9;go_simp⟩) hS ?_;refine wK (i:=4) (fuel:=3) (v:=.string q) rfl (by kernel_rfl) (by kernel_rfl) (by kernel_rfl) (fun _ _ _ h=>h) (Or.inl ⟨by rfl,fun w' h9=>by obtain ⟨k1,k2,k3,k4,k5⟩:=h9;go_simp⟩) hS ?_;refine wY (rs:=[5]) (fuel:=2) (by kernel_rfl) (by simp) ?_;refine rC rfl (fun K hK=>?_) rN;go_simp
     refine hK.out _ _ ⟨X2.c0,X2.c1,X2.c2,X2.c3,E2.c0⟩ (fun hS2=>?_);clear hK;refine wY (rs:=[6]) (fuel:=1) (by kernel_rfl) (by simp) ?_;refine rC rfl (fun K hK=>?_) rN;go_simp
     refine hK.out _ _ hS2 (fun _=>?_);clear hK;refine wY (rs:=[7]) (fuel:=0) (by kernel_rfl) (by simp) ?_;refine rC rfl (fun K hK=>?_) rN;go_simp
     refine hK.out _ _ hS2 (fun _=>?_);clear hK;refine ⟨by kernel_rfl,?_⟩;clear hS hS2 hS9 X2 E2 y0 y1 y2 y3 z0 z1 z2 z3;go_wp2_with fail
     obtain ⟨y0,y1,y2,y3,_⟩:=Y2;exact bodyPost_ret (v:=.tuple #[.agg #[.int .i64 ki,.int .i64 ni,.string nm,.string tx],.string q,.bool true]) (by simp [results,Tryz.results86,go_sem,y0,y1,y2,y3]) rfl ⟨by rw [HR.out],B2.drew⟩
    ·have dE:(AE == 0)=false:=by simpa using hE
     have HR:=Zak (HN.out (fun h=>hE h.2.2.2));have Y2:=Y.set 0 0 ⟨#[]⟩ ⟨#[]⟩;have B2:=Zav B (b:=w.heap.size) (nl _) (.int .i64 0) (.int .i64 0) (.string ⟨#[]⟩) (.string ⟨#[]⟩);obtain ⟨y0,y1,y2,y3,yf⟩:=Y;have z0:=yf 0;have z1:=yf 1;have z2:=yf 2;have z3:=yf 3;clear yf B HN HY;go_wp2_with fail
     clear y0 y1 y2 y3 z0 z1 z2 z3;obtain ⟨y0,y1,y2,y3,_⟩:=Y2;generalize ((((w9.setCell ⟨w.heap.size,0,none⟩ (.int .i64 0)).setCell ⟨w.heap.size,1,none⟩ (.int .i64 0)).setCell ⟨w.heap.size,2,none⟩ (.string ⟨#[]⟩)).setCell ⟨w.heap.size,3,none⟩ (.string ⟨#[]⟩))=wz at *;exact bodyPost_ret (v:=.tuple #[.agg #[.int .i64 0,.int .i64 0,.string ⟨#[]⟩,.string ⟨#[]⟩],.string ⟨#[]⟩,.bool false]) (by simp [results,Tryz.results86,go_sem,y0,y1,y2,y3]) rfl ⟨by rw [HR.out],B2⟩
   ·have d1:q4.toList.isEmpty=false:=by
     cases hl:q4.toList with
     | nil=>exact absurd (by rw [Im.Zj,<-ByteArray.toList_eq,hl];rfl) hz
     | cons=>rfl
    have HR:=Zak (HN.out (fun h=>hz h.2.2.1));have Y2:=Y.set 0 0 ⟨#[]⟩ ⟨#[]⟩;have B2:=Zav B (b:=w.heap.size) (nl _) (.int .i64 0) (.int .i64 0) (.string ⟨#[]⟩) (.string ⟨#[]⟩);obtain ⟨y0,y1,y2,y3,yf⟩:=Y;have z0:=yf 0;have z1:=yf 1;have z2:=yf 2;have z3:=yf 3;clear yf B HN HY;go_wp2_with fail
    clear y0 y1 y2 y3 z0 z1 z2 z3;obtain ⟨y0,y1,y2,y3,_⟩:=Y2;generalize ((((v3.setCell ⟨w.heap.size,0,none⟩ (.int .i64 0)).setCell ⟨w.heap.size,1,none⟩ (.int .i64 0)).setCell ⟨w.heap.size,2,none⟩ (.string ⟨#[]⟩)).setCell ⟨w.heap.size,3,none⟩ (.string ⟨#[]⟩))=wz at *;exact bodyPost_ret (v:=.tuple #[.agg #[.int .i64 0,.int .i64 0,.string ⟨#[]⟩,.string ⟨#[]⟩],.string ⟨#[]⟩,.bool false]) (by simp [results,Tryz.results86,go_sem,y0,y1,y2,y3]) rfl ⟨by rw [HR.out],B2⟩
def szOf:Value->Nat
 | .string b=>b.size
 | _=>0
namespace Im
theorem ZtO {r q:ByteArray} {x:Act} (h:rAct r=some (x,q)):q.size<r.size:=by
 obtain ⟨_,h2⟩:=(Zgl r x q).1 h;have hl:=congrArg List.length h2;rw [List.length_append,<-Zj,<-Zj] at hl;have hp:0<(actB x).length:=List.length_pos_iff.2 (Zjk x);omega
end Im
theorem ZdD (s:ByteArray) (w:World) (hz:s.size<=281474976710656) :
 Calls Tryz.prog 43 #[.string s] w fun e w'=>RpSaid (Im.rplL s) (Im.rplN s) (Im.rplE s) w e w':=by
 by_cases hbig:16384<s.size
 ·have e1:Im.rplL s=[]:=if_pos hbig;have e2:Im.rplN s=0:=if_pos hbig;have e3:Im.rplE s=2:=if_pos hbig;rw [e1,e2,e3];have d1:decide ((16384:Int)<(s.size:Int))=true:=zdT (by omega)
  have hq:RpSaid [] 0 2 w (.returned (.tuple #[.slice none 0 0,.int .i64 0,.int .i64 2])) w:=⟨_,rfl,World.ownsRow_nil _ _ _ _,bR _ _⟩
  generalize RpSaid [] 0 2 w=Q at *;clear e1 e2 e3;go_enter Tryz.func43,Tryz.ntmps43
  go_wp2_with fail
  go_ret3
  exact hq
 ·obtain ⟨j0,gi,gz0,gz1,gz2⟩:=info_parts (P:=Tryz.prog) (e:=54) (z:=.agg #[.int .i64 0,.int .i64 0,.string ⟨#[]⟩,.string ⟨#[]⟩]) (size:=4) (bytes:=48) (by kernel_rfl);have e1:Im.rplL s=(Im.rep 100 s).1:=if_neg hbig;have e2:Im.rplN s=s.size - (Im.rep 100 s).2.size:=if_neg hbig;have e3:Im.rplE s=0:=if_neg hbig;rw [e1,e2,e3];have d1:decide ((16384:Int)<(s.size:Int))=false:=dF (by omega);have hs:s.size<=16384:=by omega
  have HQ:Hid (∀ (l:List Im.Act) (r:ByteArray),r.size<=s.size->Im.rep 100 s=(l,r)->∀ v w',w'.ownsRow w.heap.size 54 4 v l.length (xcs l)->Below w.heap.size w w'->RpSaid (Im.rep 100 s).1 (s.size - (Im.rep 100 s).2.size) 0 w (.returned (.tuple #[v,.int .i64 ((s.size:Int) - (r.size:Int)),.int .i64 0])) w'):=fun l r h1 h3 v w' h4 h5=>by
   rw [h3];exact ⟨v,by simp only;rw [show (s.size:Int) - (r.size:Int)=((s.size - r.size:Nat):Int) by omega],h4,h5⟩
  generalize RpSaid (Im.rep 100 s).1 (s.size - (Im.rep 100 s).2.size) 0 w=Q at *;clear e1 e2 e3 hbig hz;go_enter Tryz.func43,Tryz.ntmps43
  go_wp2_with fail
  go_loopw [5,6] (fun v x wr=>∃ (l:List Im.Act) (r:ByteArray),x=.string r/\r.size<=s.size/\l.length<=100/\Hid (Im.rep 100 s=(l++(Im.rep (100 - l.length) r).1,(Im.rep (100 - l.length) r).2))/\wr.ownsRow w.heap.size 54 4 v l.length (xcs l)/\Below w.heap.size w wr) (fun _ x _=>szOf x)
  case atStart=>exact ⟨[],s,rfl,nl _,by simp,rfl,World.ownsRow_nil _ _ _ _,bR _ _⟩
  case round =>
   obtain ⟨l,r,rfl,hk,hl,HP,O,B⟩:=hrel;obtain ⟨x,c,rfl,_⟩:=Zk O;have hw:wrap64 ((s.size:Int) - (r.size:Int))=(s.size:Int) - (r.size:Int):=by unfold wrap64;omega
   by_cases hlt:l.length<100
   ·have d2:decide ((l.length:Int)<100)=true:=zdT (by omega);have d2':decide (l.length<100)=true:=zdT hlt;have C:=fun w=>ZiZ r w (by omega)
    rw [Im.Ztz] at C
    cases ha:Im.rAct r with
    | none =>
     simp only [ha,ZlV] at C;have HF:=Zak (Im.ZjX HP.out ha);clear ha HP;go_wp2_with fail
     refine (C _).mono ?_;rintro e w1 ⟨rfl,G⟩;have GA:=Za w1 (.cells #[.int .i64 0,.int .i64 0,.string ⟨#[]⟩,.string ⟨#[]⟩] 54 (0,0));have hq:=HQ.out l r hk HF.out _ _ (Zh (Zh O G) GA) (bch (bch B G (nl _)) GA (nl _));clear C O B G HQ HF;go_wp2_with fail
     go_ret3
     exact hq
    | some y =>
     obtain ⟨⟨ak,an,nm,tx⟩,q⟩:=y;have hqr:=Im.ZtO ha;simp only [ha,ZlV] at C;have HF:=Zak (Im.Zjs HP.out hlt ha);clear ha HP hw;go_wp2_with fail
     refine (C _).mono ?_;rintro e w1 ⟨rfl,G⟩;have GA:=Za w1 (.cells #[.int .i64 ak,.int .i64 an,.string nm,.string tx] 54 (0,0));have O2:=Zh (Zh O G) GA;have B2:=bch (bch B G (nl _)) GA (nl _);have X2:=XB.new w1 54 ak an nm tx;clear C O B G GA;obtain ⟨x0,x1,x2,x3,_⟩:=id X2;have hb2:=B2.size;have hsz:(w1.alloc (.cells #[.int .i64 ak,.int .i64 an,.string nm,.string tx] 54 (0,0))).heap.size=w1.heap.size+1:=by simp
     have hnw:=ZuP (w1.alloc (.cells #[.int .i64 ak,.int .i64 an,.string nm,.string tx] 54 (0,0))) (.int .i64 ak) (.int .i64 an) (.string nm) (.string tx) 54;rw [hsz] at hnw hb2;clear hsz;have HS:Hid (xcs (l++[⟨ak,an,nm,tx⟩])=xcs l++[.int .i64 ak,.int .i64 an,.string nm,.string tx]):=by show _=_;rw [Zdo];rfl
     go_wp2_with (first
      | (at_builtin;go_must (refine zwL _ rfl _ _ 60 rfl w.heap.size 54 j0 (.agg #[.int .i64 0,.int .i64 0,.string ⟨#[]⟩,.string ⟨#[]⟩]) 4 48 U60 gi gz0 gz1 gz2 rfl (by decide) _ _ _ rfl (O2.alloc _) ⟨w1.heap.size+1,0,none⟩ 1 1 [.int .i64 ak,.int .i64 an,.string nm,.string tx] rfl rfl hnw (one4 _ _ _ _) (by decide) (by unfold maxLen;omega) (by omega) (by simp;omega) _ rfl ?_;intro g cp w7 hown hgrow hat hlt7))
      | fail)
     have B3:Below w.heap.size w w7:=(B2.alloc (by simp;omega) _).grown hgrow (by simp;omega) (fun j hj=>(O2.lt j hj).1);go_roundw
     case rel=>exact ⟨l++[⟨ak,an,nm,tx⟩],q,rfl,by omega,by simp;omega,HF,by rw [HS.out];simpa using hown,B3⟩
     case measure=>exact hqr
   ·have d2:decide ((l.length:Int)<100)=false:=dF (by omega);have d2':decide (l.length<100)=false:=dF hlt;have hq:=HQ.out l r hk (Im.Zjl HP.out (by omega)) _ _ O B;clear HQ HP O;go_wp2_with fail
    go_ret3
    exact hq
theorem ArOwn.far2 {lo:Nat} {w:World} {v1 v2:Value} {a:Ar.A} (h:ArOwn lo w v1 v2 a) {b:Nat} (n1:v1.ownBlock ≠ some b) (n2:v2.ownBlock ≠ some b) (u v:Value):ArOwn lo ((w.setCell ⟨b,0,none⟩ u).setCell ⟨b,1,none⟩ v) v1 v2 a:=by
 have g1:=Zb w ⟨b,0,none⟩ u;have g2:=Zb (w.setCell ⟨b,0,none⟩ u) ⟨b,1,none⟩ v;exact ⟨(h.o1.kept g1 (.inr n1)).kept g2 (.inr n1),(h.o2.kept g1 (.inr n2)).kept g2 (.inr n2),h.ne⟩
theorem DS.far2 {w wr:World} {v1 v2:Value} {a:Ar.A} (h:DS w wr v1 v2 a) {b:Nat} (hb:w.heap.size+1<b) (n1:v1.ownBlock ≠ some b) (n2:v2.ownBlock ≠ some b) (u v:Value):DS w ((wr.setCell ⟨b,0,none⟩ u).setCell ⟨b,1,none⟩ v) v1 v2 a :=
 ⟨h.o.far2 n1 n2 u v,h.x.far (by omega) u v,h.r.far (by omega) u v,Zp h.g (by omega) u v⟩
theorem Zfk (ad:Option Addr) (cap:Nat) (l:List Im.Act) (w:World) (h:XSl w ad l) (hX:SaneX l) (hN:l.length<=1000) :
 Calls Tryz.prog 48 #[.slice ad l.length cap] w fun e w'=>ZbJ (Im.done l) w e w':=by
 have CD:Hid (∀ w' k p cp q cq,Below w.heap.size w w'->k<l.length->ArV w' p q (Im.done (l.take k))->Calls Tryz.prog 37 #[av p cp q cq (Im.done (l.take k)),.agg #[.int .i64 (Im.xa l k).kind,.int .i64 (Im.xa l k).n,.string (Im.xa l k).name,.string (Im.xa l k).text]] w' fun e w2=>ArSaid w' (Im.doA (Im.done (l.take k)) (Im.xa l k)) (Im.doE (Im.done (l.take k)) (Im.xa l k)) e w2):=fun w' k p cp q cq _ hk hv=>ZfL p q cp cq (Im.done (l.take k)) (Im.xa l k) w' hv (SaneA.done (fun x hx=>hX x (List.mem_of_mem_take hx))) (hX.at hk).1
 have HS:Hid (∀ k,k<l.length->Im.done (l.take (k+1))=if Im.doE (Im.done (l.take k)) (Im.xa l k)=0 then Im.doA (Im.done (l.take k)) (Im.xa l k) else Im.done (l.take k)):=fun k hk=>Im.done_take hk
 have HX:Hid (∀ w' k,Below w.heap.size w w'->k<l.length->∃ b off,ad=some ⟨b,off,none⟩/\b<w'.heap.size/\XC w' b (off+k*4) (Im.xa l k)):=fun w' k hb hk=>(h.below hb).at hk
 have H0:Hid (Im.done (l.take 0)=Ar.az):=rfl;have HE:Hid (Im.done (l.take l.length)=Im.done l):=by show _=_;rw [List.take_length]
 have T0:=DS.start w;clear h hX;rw [<-HE.out];clear HE;unfold av at CD;generalize l.length=N at *
 obtain ⟨dk,hdk⟩:∃ dk:Nat->Ar.A,∀ k,Im.done (l.take k)=dk k:=⟨_,fun _=>rfl⟩
 simp only [hdk] at CD HS H0 |-
 clear hdk;generalize Im.xa l=xa at *;go_enter Tryz.func48,Tryz.ntmps48
 go_wp2_with fail
 generalize ((w.alloc (.cells #[.slice none 0 0,.slice none 0 0] 25 (0,0))).alloc (.cells #[.slice none 0 0,.slice none 0 0] 25 (0,0)))=w0 at *;go_loopw [4] (fun i wr=>∃ (k:Nat) (v1 v2:Value),k<=N/\i=.int .i64 k/\DS w wr v1 v2 (dk k)) (fun i _=>N - (intOf i).toNat)
 case atStart=>exact ⟨0,_,_,by omega,rfl,by rw [H0.out];exact T0⟩
 case round =>
  clear T0 H0;obtain ⟨k,v1,v2,hk,rfl,T⟩:=hrel;obtain ⟨p,cp,q,cq,rfl,rfl,hv⟩:=T.o.slices;by_cases hlt:k<N
  ·have d1:decide ((k:Int)<(N:Int))=true:=zdT (by omega);have d1':decide (k<N)=true:=zdT hlt;have hki:(k:Int)<(N:Int):=by omega
   obtain ⟨b,off,rfl,hbl,c0,c1,c2,c3⟩:=HX.out wr k T.g hlt;have HS':=Zak (HS.out k hlt);have C:Hid (∀ w',Below w.heap.size w w'->ArV w' p q (dk k)->_):=fun w' h1 h2=>CD.out w' k p cp q cq h1 hlt h2
   generalize (xa k).kind=ak at *;generalize (xa k).n=an at *;generalize (xa k).name=nm at *;generalize (xa k).text=tx at *;generalize Im.doA (dk k) (xa k)=A2 at *;generalize Im.doE (dk k) (xa k)=E at *;generalize (dk k).dicts.length=D at *;generalize (dk k).files.length=F at *
   have HSS:Hid (∀ w',Below wr.heap.size wr w'->(fun w':World=>w'.cell? ⟨w.heap.size+1,0,none⟩=some (.slice p D cp)/\w'.cell? ⟨w.heap.size+1,1,none⟩=some (.slice q F cq)/\w'.cell? ⟨b,off+k*4,none⟩=some (.int .i64 ak)/\w'.cell? ⟨b,off+k*4+1,none⟩=some (.int .i64 an)/\w'.cell? ⟨b,off+k*4+2,none⟩=some (.string nm)/\w'.cell? ⟨b,off+k*4+3,none⟩=some (.string tx)) w'):=fun w' h9=>⟨(T.x.next h9).c0,(T.x.next h9).c1,(h9.cell (p:=⟨b,_,none⟩) hbl).trans c0,(h9.cell (p:=⟨b,_,none⟩) hbl).trans c1,(h9.cell (p:=⟨b,_,none⟩) hbl).trans c2,(h9.cell (p:=⟨b,_,none⟩) hbl).trans c3⟩
   have HV:Hid (∀ w',Below wr.heap.size wr w'->Below w.heap.size w w'/\ArV w' p q (dk k)/\DS w w' (.slice p D cp) (.slice q F cq) (dk k)):=fun w' h9=>⟨bch T.g h9 (nl _),hv.below h9,T.next h9⟩
   have hlo:=T.x.lt;have n1:∀ j,(Value.slice p D cp).ownBlock=some j->j<wr.heap.size:=fun j hj=>(T.o.o1.lt j hj).2
   have n2:∀ j,(Value.slice q F cq).ownBlock=some j->j<wr.heap.size:=fun j hj=>(T.o.o2.lt j hj).2
   clear HX CD hv T;go_wp2_with fail
   clear c0 c1 c2 c3;have G0:=(bR wr.heap.size wr).drew;refine wp_region_held_drew (S:=fun w'=>w'.cell? ⟨w.heap.size+1,0,none⟩=some (.slice p D cp)/\w'.cell? ⟨w.heap.size+1,1,none⟩=some (.slice q F cq)/\w'.cell? ⟨b,off+k*4,none⟩=some (.int .i64 ak)/\w'.cell? ⟨b,off+k*4+1,none⟩=some (.int .i64 an)/\w'.cell? ⟨b,off+k*4+2,none⟩=some (.string nm)/\w'.cell? ⟨b,off+k*4+3,none⟩=some (.string tx)) (by kernel_rfl) (HSS.out _ G0) (fun hS=>?_);refine wK (i:=0) (fuel:=11) (v:=.agg #[.slice p D cp,.slice q F cq]) rfl (by kernel_rfl) (by kernel_rfl) (by kernel_rfl) (fun _ _ _ h=>h) (Or.inl ⟨by rfl,fun w' h9=>by obtain ⟨k1,k2,k3,k4,k5,k6⟩:=h9;go_simp⟩) hS ?_;refine wK (i:=1) (fuel:=10) (v:=.slice (some ⟨b,off,none⟩) N cap) rfl (by kernel_rfl) (by kernel_rfl) (by kernel_rfl) (fun _ _ _ h=>h) (Or.inl ⟨by rfl,fun w' h9=>by obtain ⟨k1,k2,k3,k4,k5,k6⟩:=h9;go_simp⟩) hS ?_;refine wK (i:=2) (fuel:=9) (v:=.int .i64 k) rfl (by kernel_rfl) (by kernel_rfl) (by kernel_rfl) (fun _ _ _ h=>h) (Or.inl ⟨by rfl,fun w' h9=>by obtain ⟨k1,k2,k3,k4,k5,k6⟩:=h9;go_simp⟩) hS ?_;refine wK (i:=3) (fuel:=8) (v:=.pointer (some ⟨b,off+k*4,none⟩)) rfl (by kernel_rfl) (by kernel_rfl) (by kernel_rfl) (fun _ _ _ h=>h) (Or.inl ⟨by rfl,fun w' h9=>by obtain ⟨k1,k2,k3,k4,k5,k6⟩:=h9;go_simp⟩) hS ?_;refine wK (i:=4) (fuel:=7) (v:=.agg #[.int .i64 ak,.int .i64 an,.string nm,.string tx]) rfl (by kernel_rfl) (by kernel_rfl) (by kernel_rfl) (fun _ _ _ h=>h) (Or.inl ⟨by rfl,fun w' h9=>by obtain ⟨k1,k2,k3,k4,k5,k6⟩:=h9;go_simp⟩) hS ?_;refine wY (rs:=[5,9]) (fuel:=6) (by kernel_rfl) (by simp) ?_;refine rC rfl (fun K hK=>?_) (rC rfl (fun K hK=>?_) rN)
   ·go_simp
    go_at_call 37
    obtain ⟨b1,v1,_⟩:=HV.out _ G0;refine (C.out _ b1 v1).mono ?_;intro e w2 h1;obtain ⟨p2,q2,p3,q3,rfl,O2,G2⟩:=h1.own;have G1:=bch G0 G2 (nl _);generalize A2.dicts.length=D2 at *;generalize A2.files.length=F2 at *;refine hK.out _ _ (HSS.out _ G1) (fun hS1=>?_);clear hK h1 b1 v1;refine wK (i:=6) (fuel:=5) (v:=.tuple #[.agg #[.slice p2 D2 q2,.slice p3 F2 q3],.int .i64 E]) rfl (by kernel_rfl) (by kernel_rfl) (by kernel_rfl) (fun _ _ _ h=>h) (Or.inl ⟨by rfl,fun w' h9=>by obtain ⟨k1,k2,k3,k4,k5,k6⟩:=h9;go_simp⟩) hS1 ?_;refine wK (i:=7) (fuel:=4) (v:=.agg #[.slice p2 D2 q2,.slice p3 F2 q3]) rfl (by kernel_rfl) (by kernel_rfl) (by kernel_rfl) (fun _ _ _ h=>h) (Or.inl ⟨by rfl,fun w' h9=>by obtain ⟨k1,k2,k3,k4,k5,k6⟩:=h9;go_simp⟩) hS1 ?_;refine wK (i:=8) (fuel:=3) (v:=.int .i64 E) rfl (by kernel_rfl) (by kernel_rfl) (by kernel_rfl) (fun _ _ _ h=>h) (Or.inl ⟨by rfl,fun w' h9=>by obtain ⟨k1,k2,k3,k4,k5,k6⟩:=h9;go_simp⟩) hS1 ?_;refine wY (rs:=[9]) (fuel:=2) (by kernel_rfl) (by simp) ?_;refine rC rfl (fun K hK=>?_) rN;go_simp
    have G3:=bch G1 (Za w2 (.cells #[.slice none 0 0,.slice none 0 0] 25 (0,0))) (nl _);have O3:=O2.next (Za w2 (.cells #[.slice none 0 0,.slice none 0 0] 25 (0,0)));have XB:=Bx.new w2 (.slice none 0 0) (.slice none 0 0);have hbB2:=G1.size;have hbB:w.heap.size+1<w2.heap.size:=by omega
    have m1:(Value.slice p2 D2 q2).ownBlock ≠ some w2.heap.size:=fun e=>by have:=(O2.o1.lt _ e).2;omega
    have m2:(Value.slice p3 F2 q3).ownBlock ≠ some w2.heap.size:=fun e=>by have:=(O2.o2.lt _ e).2;omega
    refine hK.out _ _ (HSS.out _ G3) (fun hS2=>?_);clear hK hS2;generalize (w2.alloc (.cells #[.slice none 0 0,.slice none 0 0] 25 (0,0)))=w3 at *;clear G2 O2 G1;generalize w2.heap.size=bB at *;refine wY (rs:=[10]) (fuel:=1) (by kernel_rfl) (by simp) ?_;refine rC rfl (fun K hK=>?_) rN;obtain ⟨_,_,T3⟩:=HV.out _ G3;have O4:=O3.far2 m1 m2 (.slice p2 D2 q2) (.slice p3 F2 q3);have T4:=T3.far2 hbB (fun e=>by have:=n1 _ e;omega) (fun e=>by have:=n2 _ e;omega) (.slice p2 D2 q2) (.slice p3 F2 q3);have G4:=Zp G3 (b:=bB) hbB2 (.slice p2 D2 q2) (.slice p3 F2 q3);have X4:=XB.set (u:=.slice p2 D2 q2) (v:=.slice p3 F2 q3);have x0:=XB.c0;have x1:=XB.c1;have f0:=XB.f0;have f1:=XB.f1;have x1':=(cO w3 ⟨bB,0,none⟩ ⟨bB,1,none⟩ (.slice p2 D2 q2) (by simp)).trans x1;go_simp
    refine hK.out _ _ (HSS.out _ G4) (fun hS3=>?_);clear hK x0 x1 f0 f1 x1' XB O3 T3 G3;refine wY (rs:=[11]) (fuel:=0) (by kernel_rfl) (by simp) ?_;refine rC rfl (fun K hK=>?_) rN;go_simp
    refine hK.out _ _ hS3 (fun _=>?_);clear hK;refine ⟨by kernel_rfl,?_⟩;clear hS hS1 hS3;generalize ((w3.setCell ⟨bB,0,none⟩ (.slice p2 D2 q2)).setCell ⟨bB,1,none⟩ (.slice p3 F2 q3))=w4 at *;by_cases hE:E=0
    ·subst hE;have e2:=HS'.out;rw [if_pos rfl] at e2;have HS2:=Zak e2;clear e2;have T5:=T4.put O4 (by show _<=wr.heap.size;omega);have k0:=X4.c0;have k1:=X4.c1;have y0:=T4.x.c0;have y1:=T4.x.c1;have z0:=T4.x.f0;have z1:=T4.x.f1;clear T4 O4 X4 HS';go_wp2_with fail
     clear k0 k1 y0 y1 z0 z1;go_roundw
     case rel=>exact ⟨k+1,_,_,by omega,by go_num,by rw [HS2.out];exact T5⟩
     case measure=>simp [intOf];omega
    ·have dE:(E == 0)=false:=by simpa using hE
     have e2:=HS'.out;rw [if_neg hE] at e2;have HS2:=Zak e2;clear e2 O4 X4 HS';go_wp2_with fail
     go_roundw
     case rel=>exact ⟨k+1,_,_,by omega,by go_num,by rw [HS2.out];exact T4⟩
     case measure=>simp [intOf];omega
   ·go_simp
    have GA:Below wr.heap.size wr (wr.alloc (.cells #[.slice none 0 0,.slice none 0 0] 25 (0,0))).drew:=(Za wr (.cells #[.slice none 0 0,.slice none 0 0] 25 (0,0))).drew;have XA:=(Bx.new wr (.slice none 0 0) (.slice none 0 0)).next ((bR _ _).drew);refine hK.out _ _ (HSS.out _ GA) (fun hS2=>?_);clear hK hS2;have hsz:(wr.alloc (.cells #[.slice none 0 0,.slice none 0 0] 25 (0,0))).drew.heap.size=wr.heap.size+1:=by simp
    generalize (wr.alloc (.cells #[.slice none 0 0,.slice none 0 0] 25 (0,0))).drew=wA at *;refine wY (rs:=[5]) (fuel:=5) (by kernel_rfl) (by simp) ?_;refine rC rfl (fun K hK=>?_) rN;go_simp
    go_at_call 37
    obtain ⟨b1,v1,_⟩:=HV.out _ GA;refine (C.out _ b1 v1).mono ?_;intro e w2 h1;obtain ⟨p2,q2,p3,q3,rfl,O2,G2⟩:=h1.own;have G3:=bch GA G2 (nl _);generalize A2.dicts.length=D2 at *;generalize A2.files.length=F2 at *;refine hK.out _ _ (HSS.out _ G3) (fun hS1=>?_);clear hK h1 b1 v1;refine wK (i:=6) (fuel:=4) (v:=.tuple #[.agg #[.slice p2 D2 q2,.slice p3 F2 q3],.int .i64 E]) rfl (by kernel_rfl) (by kernel_rfl) (by kernel_rfl) (fun _ _ _ h=>h) (Or.inl ⟨by rfl,fun w' h9=>by obtain ⟨k1,k2,k3,k4,k5,k6⟩:=h9;go_simp⟩) hS1 ?_;refine wK (i:=7) (fuel:=3) (v:=.agg #[.slice p2 D2 q2,.slice p3 F2 q3]) rfl (by kernel_rfl) (by kernel_rfl) (by kernel_rfl) (fun _ _ _ h=>h) (Or.inl ⟨by rfl,fun w' h9=>by obtain ⟨k1,k2,k3,k4,k5,k6⟩:=h9;go_simp⟩) hS1 ?_;refine wK (i:=8) (fuel:=2) (v:=.int .i64 E) rfl (by kernel_rfl) (by kernel_rfl) (by kernel_rfl) (fun _ _ _ h=>h) (Or.inl ⟨by rfl,fun w' h9=>by obtain ⟨k1,k2,k3,k4,k5,k6⟩:=h9;go_simp⟩) hS1 ?_;have XB:=XA.next G2;have O3:=O2;have hbB:w.heap.size+1<wr.heap.size:=hlo;have hbB2:wr.heap.size<=wr.heap.size:=nl _;have m1:(Value.slice p2 D2 q2).ownBlock ≠ some wr.heap.size:=fun e=>by have:=(O2.o1.lt _ e).1;omega
    have m2:(Value.slice p3 F2 q3).ownBlock ≠ some wr.heap.size:=fun e=>by have:=(O2.o2.lt _ e).1;omega
    clear O2 G2 XA
    obtain ⟨w3,rfl⟩:∃ w3,w3=w2:=⟨_,rfl⟩
    obtain ⟨bB,hbe⟩:∃ bB,bB=wr.heap.size:=⟨_,rfl⟩
    refine wY (rs:=[10]) (fuel:=1) (by kernel_rfl) (by simp) ?_;refine rC rfl (fun K hK=>?_) rN;obtain ⟨_,_,T3⟩:=HV.out _ G3;have O4:=O3.far2 m1 m2 (.slice p2 D2 q2) (.slice p3 F2 q3);have T4:=T3.far2 hbB (fun e=>by have:=n1 _ e;omega) (fun e=>by have:=n2 _ e;omega) (.slice p2 D2 q2) (.slice p3 F2 q3);have G4:=Zp G3 (b:=wr.heap.size) hbB2 (.slice p2 D2 q2) (.slice p3 F2 q3);have X4:=XB.set (u:=.slice p2 D2 q2) (v:=.slice p3 F2 q3);have x0:=XB.c0;have x1:=XB.c1;have f0:=XB.f0;have f1:=XB.f1;have x1':=(cO w3 ⟨wr.heap.size,0,none⟩ ⟨wr.heap.size,1,none⟩ (.slice p2 D2 q2) (by simp)).trans x1;go_simp
    refine hK.out _ _ (HSS.out _ G4) (fun hS3=>?_);clear hK x0 x1 f0 f1 x1' XB O3 T3 G3;refine wY (rs:=[11]) (fuel:=0) (by kernel_rfl) (by simp) ?_;refine rC rfl (fun K hK=>?_) rN;go_simp
    refine hK.out _ _ hS3 (fun _=>?_);clear hK;refine ⟨by kernel_rfl,?_⟩;clear hS hS1 hS3;generalize ((w3.setCell ⟨wr.heap.size,0,none⟩ (.slice p2 D2 q2)).setCell ⟨wr.heap.size,1,none⟩ (.slice p3 F2 q3))=w4 at *;by_cases hE:E=0
    ·subst hE;have e2:=HS'.out;rw [if_pos rfl] at e2;have HS2:=Zak e2;clear e2;have T5:=T4.put O4 (by omega);have k0:=X4.c0;have k1:=X4.c1;have y0:=T4.x.c0;have y1:=T4.x.c1;have z0:=T4.x.f0;have z1:=T4.x.f1;clear T4 O4 X4 HS';go_wp2_with fail
     clear k0 k1 y0 y1 z0 z1;go_roundw
     case rel=>exact ⟨k+1,_,_,by omega,by go_num,by rw [HS2.out];exact T5⟩
     case measure=>simp [intOf];omega
    ·have dE:(E == 0)=false:=by simpa using hE
     have e2:=HS'.out;rw [if_neg hE] at e2;have HS2:=Zak e2;clear e2 O4 X4 HS';go_wp2_with fail
     go_roundw
     case rel=>exact ⟨k+1,_,_,by omega,by go_num,by rw [HS2.out];exact T4⟩
     case measure=>simp [intOf];omega
  ·obtain rfl:k=N:=by omega
   have d1:decide ((k:Int)<(k:Int))=false:=by simp
   have d1':decide (k<k)=false:=by simp
   obtain ⟨X9,hq⟩:=T.fin;generalize (dk k).dicts.length=D at *;generalize (dk k).files.length=F at *;have y0:=T.x.c0;have y1:=T.x.c1;have x0:=T.r.c0;have x1:=T.r.c1;have z0:=T.r.f0;have z1:=T.r.f1;clear T hv;go_wp2_with fail
   clear y0 y1 x0 x1 z0 z1;have y0:=X9.c0;have y1:=X9.c1;generalize ((wr.setCell ⟨w.heap.size,0,none⟩ (.slice p D cp)).setCell ⟨w.heap.size,1,none⟩ (.slice q F cq))=wz at *;exact bodyPost_ret (v:=.agg #[.slice p D cp,.slice q F cq]) (by simp [results,Tryz.results48,go_sem,y0,y1]) rfl hq
theorem Zix (s:ByteArray) (k n:Int) (nm tx:ByteArray) (w:World) (hz:s.size<=281474976710656) (hn:nm.size<=140737488355328) :
 Calls Tryz.prog 47 #[.string s,.agg #[.int .i64 k,.int .i64 n,.string nm,.string tx]] w fun e w'=>e=.returned (.tuple #[.string (Im.stoT s ⟨k,n,nm,tx⟩),.int .i64 (Im.stoE s ⟨k,n,nm,tx⟩)])/\Below w.heap.size w w':=by
 have B1:=Za w (.cells #[.int .i64 k,.int .i64 n,.string nm,.string tx] 54 (0,0));have X1:=XB.new w 54 k n nm tx;obtain ⟨_,hl,hN⟩:=Im.ZgD s;have hX:=Zeh s;have hWT:=Im.Zra ⟨k,n,nm,tx⟩;have C1:=ZdD s (w.alloc (.cells #[.int .i64 k,.int .i64 n,.string nm,.string tx] 54 (0,0))) hz;have C2:Hid (∀ w',Calls Tryz.prog 40 #[.agg #[.int .i64 k,.int .i64 n,.string nm,.string tx]] w' fun e w2=>e=.returned (.int .i64 (Im.actE ⟨k,n,nm,tx⟩))/\Below w'.heap.size w' w2):=fun w'=>ZdC k n nm tx w'
 have C3:Hid (Im.actE ⟨k,n,nm,tx⟩=0->∀ w',Calls Tryz.prog 41 #[.agg #[.int .i64 k,.int .i64 n,.string nm,.string tx]] w' fun e w2=>e=.returned (.string (Im.wrtT ⟨k,n,nm,tx⟩))/\Below w'.heap.size w' w2):=fun h0 w'=>by
  have h9:=ZhA k n nm tx w' h0;rw [show Im.wrtT ⟨k,n,nm,tx⟩=⟨(Im.actB ⟨k,n,nm,tx⟩).toArray⟩ by unfold Im.wrtT;rw [if_pos h0]];exact h9
 have CD0:Hid (∀ w' ad cap,Below w.heap.size w w'->XSl w' ad (Im.rplL s)->Calls Tryz.prog 48 #[.slice ad (Im.rplL s).length cap] w' fun e w2=>ZbJ (Im.done (Im.rplL s)) w' e w2):=fun w' ad cap h1 h2=>Zfk ad cap _ w' h2 hX (by omega)
 have CO0:Hid (∀ w' p cp q cq,Below w.heap.size w w'->ArV w' p q (Im.done (Im.rplL s))->Calls Tryz.prog 37 #[.agg #[.slice p (Im.done (Im.rplL s)).dicts.length cp,.slice q (Im.done (Im.rplL s)).files.length cq],.agg #[.int .i64 k,.int .i64 n,.string nm,.string tx]] w' fun e w2=>ArSaid w' (Im.doA (Im.done (Im.rplL s)) ⟨k,n,nm,tx⟩) (Im.doE (Im.done (Im.rplL s)) ⟨k,n,nm,tx⟩) e w2):=fun w' p cp q cq h1 h2=>ZfL p q cp cq _ ⟨k,n,nm,tx⟩ w' h2 (SaneA.done hX) hn
 have HE:Hid (Im.stoE s ⟨k,n,nm,tx⟩=if Im.rplE s ≠ 0 then Im.rplE s else if Im.actE ⟨k,n,nm,tx⟩ ≠ 0 then Im.actE ⟨k,n,nm,tx⟩ else if (Im.rplL s).length=100\/16384<Im.rplN s+(Im.wrtT ⟨k,n,nm,tx⟩).size then 2 else Im.doE (Im.done (Im.rplL s)) ⟨k,n,nm,tx⟩):=rfl;have HT:Hid (Im.stoT s ⟨k,n,nm,tx⟩=if Im.stoE s ⟨k,n,nm,tx⟩=0 then s.extract 0 (Im.rplN s)++Im.wrtT ⟨k,n,nm,tx⟩ else ⟨#[]⟩):=rfl
 have hz0:Im.rplE s=0->s.size<=16384:=fun h0=>by
  by_cases hb:16384<s.size
  ·unfold Im.rplE at h0;rw [if_pos hb] at h0;cases h0
  ·omega
 clear hX;generalize Im.stoT s ⟨k,n,nm,tx⟩=ST at *;generalize Im.stoE s ⟨k,n,nm,tx⟩=SE at *;generalize Im.actE ⟨k,n,nm,tx⟩=AE at *;generalize Im.wrtT ⟨k,n,nm,tx⟩=WT at *;generalize Im.doE (Im.done (Im.rplL s)) ⟨k,n,nm,tx⟩=E3 at *;generalize Im.doA (Im.done (Im.rplL s)) ⟨k,n,nm,tx⟩=A2 at *;generalize Im.done (Im.rplL s)=AD at *;generalize Im.rplE s=RE at *;generalize Im.rplN s=RN at *;have HL:Hid (∀ (w:World) (e:Ending) (w':World),RpSaid (Im.rplL s) RN RE w e w'->∃ ad cap,e=.returned (.tuple #[.slice ad (Im.rplL s).length cap,.int .i64 (RN:Nat),.int .i64 RE])/\XSl w' ad (Im.rplL s)/\Below w.heap.size w w'):=fun _ _ _ h=>h.open
 generalize Im.rplL s=l at *;generalize l.length=N at *;go_enter Tryz.func47,Tryz.ntmps47
 go_wp2_with fail
 generalize (w.alloc (.cells #[.int .i64 k,.int .i64 n,.string nm,.string tx] 54 (0,0)))=w0 at *;refine C1.mono ?_;intro e w1 h1;obtain ⟨ad,cap,rfl,hx,G⟩:=HL.out _ _ _ h1;have X:=X1.next G;have B:=bch B1 G (nl _);clear C1 h1 G X1 B1 HL;by_cases hRE:RE=0
 ·have hs:=hz0 hRE;have hRN:RN<=16384:=by omega
  have hw:wrap64 ((RN:Int)+(WT.size:Int))=(RN:Int)+(WT.size:Int):=by unfold wrap64;omega
  clear hz0;subst hRE;obtain ⟨x0,x1,x2,x3,_⟩:=id X;go_wp2_with fail
  clear x0 x1 x2 x3;refine (C2.out _).mono ?_;rintro e w2 ⟨rfl,G⟩;have X:=X.next G;have hx:=hx.below G;have B:=bch B G (nl _);clear C2 G;by_cases hAE:AE=0
  ·subst hAE;have CB:=C3.out (by first | trivial | rfl);clear C3;by_cases h100:N=100
   ·have d1:decide ((100:Int)<=(N:Int))=true:=zdT (by omega);have d1':decide (100<=N)=true:=zdT (by omega);have eE:=HE.out;rw [if_neg (by simp),if_neg (by simp),if_pos (.inl h100)] at eE;have eT:=HT.out;rw [eE,if_neg (by decide)] at eT
    have HR:=(show Hid (SE=2/\ST=⟨#[]⟩) from ⟨eE,eT⟩)
    clear eE eT HE HT;go_wp2_with fail
    go_ret2
    exact ⟨by rw [HR.out.1,HR.out.2];rfl,B⟩
   ·have d1:decide ((100:Int)<=(N:Int))=false:=dF (by omega);have d1':decide (100<=N)=false:=dF (by omega);obtain ⟨x0,x1,x2,x3,_⟩:=id X;go_wp2_with fail
    clear x0 x1 x2 x3;refine (CB _).mono ?_;rintro e w3 ⟨rfl,G⟩;have X:=X.next G;have hx:=hx.below G;have B:=bch B G (nl _);clear G;by_cases hbg:16384<RN+WT.size
    ·have d2:decide ((16384:Int)<(RN:Int)+(WT.size:Int))=true:=zdT (by omega);have eE:=HE.out;rw [if_neg (by simp),if_neg (by simp),if_pos (.inr hbg)] at eE;have eT:=HT.out;rw [eE,if_neg (by decide)] at eT
     have HR:=(show Hid (SE=2/\ST=⟨#[]⟩) from ⟨eE,eT⟩)
     clear eE eT HE HT;go_wp2_with fail
     go_ret2
     exact ⟨by rw [HR.out.1,HR.out.2];rfl,B⟩
    ·have d2:decide ((16384:Int)<(RN:Int)+(WT.size:Int))=false:=dF (by omega);have eE:=HE.out;rw [if_neg (by simp),if_neg (by simp),if_neg (fun h=>by omega)] at eE;have eT:=HT.out;rw [eE] at eT
     have HR:=(show Hid (SE=E3/\ST=if E3=0 then s.extract 0 RN++WT else ⟨#[]⟩) from ⟨eE,eT⟩)
     clear eE eT HE HT;have CD:=CD0.out;go_upto_region 9 with fail
     obtain ⟨u,hu⟩:∃ u,u=w3:=⟨_,rfl⟩
     rw [<-hu] at X hx B |-
     clear hu
     have HSS:Hid (∀ w',Below u.heap.size u w'->(fun w':World=>w'.cell? ⟨w.heap.size,0,none⟩=some (.int .i64 k)/\w'.cell? ⟨w.heap.size,1,none⟩=some (.int .i64 n)/\w'.cell? ⟨w.heap.size,2,none⟩=some (.string nm)/\w'.cell? ⟨w.heap.size,3,none⟩=some (.string tx)) w'):=fun w' h9=>⟨(X.next h9).c0,(X.next h9).c1,(X.next h9).c2,(X.next h9).c3⟩
     have CD:Hid (∀ w',Below u.heap.size u w'->Calls Tryz.prog 48 #[.slice ad N cap] w' fun e w2=>ZbJ AD w' e w2):=fun w' h9=>CD0.out w' ad cap (bch B h9 (nl _)) (hx.below h9)
     have CO:Hid (∀ w' p cp q cq,Below u.heap.size u w'->ArV w' p q AD->Calls Tryz.prog 37 #[.agg #[.slice p AD.dicts.length cp,.slice q AD.files.length cq],.agg #[.int .i64 k,.int .i64 n,.string nm,.string tx]] w' fun e w2=>ArSaid w' A2 E3 e w2):=fun w' p cp q cq h9 hv=>CO0.out w' p cp q cq (bch B h9 (nl _)) hv
     clear CD0 CO0 hx;go_cut [10,11] from 37 to 43 (fun _ x wx=>x=.int .i64 E3/\Below u.heap.size u wx)
     case first =>
      clear HR;have G0:=(bR u.heap.size u).drew;refine wp_region_held_drew (S:=fun w'=>w'.cell? ⟨w.heap.size,0,none⟩=some (.int .i64 k)/\w'.cell? ⟨w.heap.size,1,none⟩=some (.int .i64 n)/\w'.cell? ⟨w.heap.size,2,none⟩=some (.string nm)/\w'.cell? ⟨w.heap.size,3,none⟩=some (.string tx)) (by kernel_rfl) (HSS.out _ G0) (fun hS=>?_);refine wK (i:=0) (fuel:=9) (v:=.slice ad N cap) rfl (by kernel_rfl) (by kernel_rfl) (by kernel_rfl) (fun _ _ _ h=>h) (Or.inl ⟨by rfl,fun w' h9=>by obtain ⟨k1,k2,k3,k4⟩:=h9;go_simp⟩) hS ?_;refine wK (i:=2) (fuel:=8) (v:=.agg #[.int .i64 k,.int .i64 n,.string nm,.string tx]) rfl (by kernel_rfl) (by kernel_rfl) (by kernel_rfl) (fun _ _ _ h=>h) (Or.inl ⟨by rfl,fun w' h9=>by obtain ⟨k1,k2,k3,k4⟩:=h9;go_simp⟩) hS ?_;refine wY (rs:=[1,7]) (fuel:=7) (by kernel_rfl) (by simp) ?_;refine rC rfl (fun K hK=>?_) (rC rfl (fun K hK=>?_) rN)
      ·go_simp
       go_at_call 48
       refine (CD.out _ G0).mono ?_;rintro e wd ⟨v1,v2,rfl,OD,GD⟩;obtain ⟨p,cp,q,cq,rfl,rfl,VD⟩:=OD.slices;have G1:=bch G0 GD (nl _);refine hK.out _ _ (HSS.out _ G1) (fun hS1=>?_);clear hK;generalize AD.dicts.length=D at *;generalize AD.files.length=F at *;refine wY (rs:=[3,7]) (fuel:=6) (by kernel_rfl) (by simp) ?_;refine rC rfl (fun K hK=>?_) (rC rfl (fun K hK=>?_) rN)
       ·go_simp
        go_at_call 37
        refine (CO.out _ _ _ _ _ G1 VD).mono ?_;intro e wo h1;obtain ⟨p2,q2,p3,q3,rfl,_,GO⟩:=h1.own;have G2:=bch G1 GO (nl _);refine hK.out _ _ (HSS.out _ G2) (fun hS2=>?_);clear hK h1;generalize A2.dicts.length=D2 at *;generalize A2.files.length=F2 at *;refine wK (i:=4) (fuel:=5) (v:=.tuple #[.agg #[.slice p2 D2 q2,.slice p3 F2 q3],.int .i64 E3]) rfl (by kernel_rfl) (by kernel_rfl) (by kernel_rfl) (fun _ _ _ h=>h) (Or.inl ⟨by rfl,fun w' h9=>by obtain ⟨k1,k2,k3,k4⟩:=h9;go_simp⟩) hS2 ?_;refine wK (i:=5) (fuel:=4) (v:=.agg #[.slice p2 D2 q2,.slice p3 F2 q3]) rfl (by kernel_rfl) (by kernel_rfl) (by kernel_rfl) (fun _ _ _ h=>h) (Or.inl ⟨by rfl,fun w' h9=>by obtain ⟨k1,k2,k3,k4⟩:=h9;go_simp⟩) hS2 ?_;refine wK (i:=6) (fuel:=3) (v:=.int .i64 E3) rfl (by kernel_rfl) (by kernel_rfl) (by kernel_rfl) (fun _ _ _ h=>h) (Or.inl ⟨by rfl,fun w' h9=>by obtain ⟨k1,k2,k3,k4⟩:=h9;go_simp⟩) hS2 ?_;refine wY (rs:=[7]) (fuel:=2) (by kernel_rfl) (by simp) ?_;refine rC rfl (fun K hK=>?_) rN;go_simp
        have G3:Below u.heap.size u (wo.alloc (.cells #[.slice none 0 0,.slice none 0 0] 25 (0,0))):=bch G2 (Za wo (.cells #[.slice none 0 0,.slice none 0 0] 25 (0,0))) (nl _);have XN:=Bx.new wo (.slice none 0 0) (.slice none 0 0);have hbN0:u.heap.size<=wo.heap.size:=G2.size;refine hK.out _ _ (HSS.out _ G3) (fun hS3=>?_);clear hK;generalize (wo.alloc (.cells #[.slice none 0 0,.slice none 0 0] 25 (0,0)))=wa at *
        obtain ⟨bN,hbn⟩:∃ bN,bN=wo.heap.size:=⟨_,rfl⟩
        rw [<-hbn] at XN |-
        have hbN:u.heap.size<=bN:=by rw [hbn];exact hbN0
        clear hbn hbN0;refine wY (rs:=[8]) (fuel:=1) (by kernel_rfl) (by simp) ?_;refine rC rfl (fun K hK=>?_) rN;have x0:=XN.c0;have x1:=XN.c1;have f0:=XN.f0;have f1:=XN.f1;have x1':=(cO wa ⟨bN,0,none⟩ ⟨bN,1,none⟩ (.slice p2 D2 q2) (by simp)).trans x1;have G9:=Zp G3 (b:=bN) hbN (.slice p2 D2 q2) (.slice p3 F2 q3);go_simp
        refine hK.out _ _ (HSS.out _ G9) (fun hS9=>?_);clear hK x0 x1 f0 f1 x1';refine wY (rs:=[9]) (fuel:=0) (by kernel_rfl) (by simp) ?_;refine rC rfl (fun K hK=>?_) rN;go_simp
        refine hK.out _ _ hS9 (fun _=>?_);clear hK;refine ⟨by kernel_rfl,?_⟩;go_wp2_with fail
        go_meet
        exact ⟨rfl,G9⟩
       ·go_simp
        have G2:Below u.heap.size u (wd.alloc (.cells #[.slice none 0 0,.slice none 0 0] 25 (0,0))):=bch G1 (Za wd (.cells #[.slice none 0 0,.slice none 0 0] 25 (0,0))) (nl _);have XN:=Bx.new wd (.slice none 0 0) (.slice none 0 0);have hbN0:u.heap.size<=wd.heap.size:=G1.size;refine hK.out _ _ (HSS.out _ G2) (fun hS3=>?_);clear hK;have AB:=Za wd (.cells #[.slice none 0 0,.slice none 0 0] 25 (0,0));generalize (wd.alloc (.cells #[.slice none 0 0,.slice none 0 0] 25 (0,0)))=wa at *
        obtain ⟨bN,hbn⟩:∃ bN,bN=wd.heap.size:=⟨_,rfl⟩
        rw [<-hbn] at XN |-
        have hbN:u.heap.size<=bN:=by rw [hbn];exact hbN0
        clear hbn hbN0;have VA:=VD.below (show Below wd.heap.size wd wa from AB);refine wY (rs:=[3]) (fuel:=5) (by kernel_rfl) (by simp) ?_;refine rC rfl (fun K hK=>?_) rN;go_simp
        go_at_call 37
        refine (CO.out _ _ _ _ _ G2 VA).mono ?_;intro e wo h1;obtain ⟨p2,q2,p3,q3,rfl,_,GO⟩:=h1.own;have G3:=bch G2 GO (nl _);refine hK.out _ _ (HSS.out _ G3) (fun hS2=>?_);clear hK h1;generalize A2.dicts.length=D2 at *;generalize A2.files.length=F2 at *;have XN:=XN.next GO;refine wK (i:=4) (fuel:=4) (v:=.tuple #[.agg #[.slice p2 D2 q2,.slice p3 F2 q3],.int .i64 E3]) rfl (by kernel_rfl) (by kernel_rfl) (by kernel_rfl) (fun _ _ _ h=>h) (Or.inl ⟨by rfl,fun w' h9=>by obtain ⟨k1,k2,k3,k4⟩:=h9;go_simp⟩) hS2 ?_;refine wK (i:=5) (fuel:=3) (v:=.agg #[.slice p2 D2 q2,.slice p3 F2 q3]) rfl (by kernel_rfl) (by kernel_rfl) (by kernel_rfl) (fun _ _ _ h=>h) (Or.inl ⟨by rfl,fun w' h9=>by obtain ⟨k1,k2,k3,k4⟩:=h9;go_simp⟩) hS2 ?_;refine wK (i:=6) (fuel:=2) (v:=.int .i64 E3) rfl (by kernel_rfl) (by kernel_rfl) (by kernel_rfl) (fun _ _ _ h=>h) (Or.inl ⟨by rfl,fun w' h9=>by obtain ⟨k1,k2,k3,k4⟩:=h9;go_simp⟩) hS2 ?_;refine wY (rs:=[8]) (fuel:=1) (by kernel_rfl) (by simp) ?_;refine rC rfl (fun K hK=>?_) rN;have x0:=XN.c0;have x1:=XN.c1;have f0:=XN.f0;have f1:=XN.f1;have x1':=(cO wo ⟨bN,0,none⟩ ⟨bN,1,none⟩ (.slice p2 D2 q2) (by simp)).trans x1;have G9:=Zp G3 (b:=bN) hbN (.slice p2 D2 q2) (.slice p3 F2 q3);go_simp
        refine hK.out _ _ (HSS.out _ G9) (fun hS9=>?_);clear hK x0 x1 f0 f1 x1';refine wY (rs:=[9]) (fuel:=0) (by kernel_rfl) (by simp) ?_;refine rC rfl (fun K hK=>?_) rN;go_simp
        refine hK.out _ _ hS9 (fun _=>?_);clear hK;refine ⟨by kernel_rfl,?_⟩;go_wp2_with fail
        go_meet
        exact ⟨rfl,G9⟩
      ·go_simp
       have G1:Below u.heap.size u (u.alloc (.cells #[.slice none 0 0,.slice none 0 0] 25 (0,0))).drew:=(Za u (.cells #[.slice none 0 0,.slice none 0 0] 25 (0,0))).drew;have XN:=(Bx.new u (.slice none 0 0) (.slice none 0 0)).next ((bR _ _).drew);have hbN0:u.heap.size<=u.heap.size:=nl _;refine hK.out _ _ (HSS.out _ G1) (fun hS3=>?_);clear hK;generalize (u.alloc (.cells #[.slice none 0 0,.slice none 0 0] 25 (0,0))).drew=wa at *
       obtain ⟨bN,hbn⟩:∃ bN,bN=u.heap.size:=⟨_,rfl⟩
       rw [<-hbn] at XN |-
       have hbN:u.heap.size<=bN:=by rw [hbn];exact hbN0
       clear hbn hbN0;refine wY (rs:=[1]) (fuel:=6) (by kernel_rfl) (by simp) ?_;refine rC rfl (fun K hK=>?_) rN;go_simp
       go_at_call 48
       refine (CD.out _ G1).mono ?_;rintro e wd ⟨v1,v2,rfl,OD,GD⟩;obtain ⟨p,cp,q,cq,rfl,rfl,VD⟩:=OD.slices;have G2:=bch G1 GD (nl _);refine hK.out _ _ (HSS.out _ G2) (fun hS1=>?_);clear hK;generalize AD.dicts.length=D at *;generalize AD.files.length=F at *;have XN:=XN.next GD;refine wY (rs:=[3]) (fuel:=5) (by kernel_rfl) (by simp) ?_;refine rC rfl (fun K hK=>?_) rN;go_simp
       go_at_call 37
       refine (CO.out _ _ _ _ _ G2 VD).mono ?_;intro e wo h1;obtain ⟨p2,q2,p3,q3,rfl,_,GO⟩:=h1.own;have G3:=bch G2 GO (nl _);refine hK.out _ _ (HSS.out _ G3) (fun hS2=>?_);clear hK h1;generalize A2.dicts.length=D2 at *;generalize A2.files.length=F2 at *;have XN:=XN.next GO;refine wK (i:=4) (fuel:=4) (v:=.tuple #[.agg #[.slice p2 D2 q2,.slice p3 F2 q3],.int .i64 E3]) rfl (by kernel_rfl) (by kernel_rfl) (by kernel_rfl) (fun _ _ _ h=>h) (Or.inl ⟨by rfl,fun w' h9=>by obtain ⟨k1,k2,k3,k4⟩:=h9;go_simp⟩) hS2 ?_;refine wK (i:=5) (fuel:=3) (v:=.agg #[.slice p2 D2 q2,.slice p3 F2 q3]) rfl (by kernel_rfl) (by kernel_rfl) (by kernel_rfl) (fun _ _ _ h=>h) (Or.inl ⟨by rfl,fun w' h9=>by obtain ⟨k1,k2,k3,k4⟩:=h9;go_simp⟩) hS2 ?_;refine wK (i:=6) (fuel:=2) (v:=.int .i64 E3) rfl (by kernel_rfl) (by kernel_rfl) (by kernel_rfl) (fun _ _ _ h=>h) (Or.inl ⟨by rfl,fun w' h9=>by obtain ⟨k1,k2,k3,k4⟩:=h9;go_simp⟩) hS2 ?_;refine wY (rs:=[8]) (fuel:=1) (by kernel_rfl) (by simp) ?_;refine rC rfl (fun K hK=>?_) rN;have x0:=XN.c0;have x1:=XN.c1;have f0:=XN.f0;have f1:=XN.f1;have x1':=(cO wo ⟨bN,0,none⟩ ⟨bN,1,none⟩ (.slice p2 D2 q2) (by simp)).trans x1;have G9:=Zp G3 (b:=bN) hbN (.slice p2 D2 q2) (.slice p3 F2 q3);go_simp
       refine hK.out _ _ (HSS.out _ G9) (fun hS9=>?_);clear hK x0 x1 f0 f1 x1';refine wY (rs:=[9]) (fuel:=0) (by kernel_rfl) (by simp) ?_;refine rC rfl (fun K hK=>?_) rN;go_simp
       refine hK.out _ _ hS9 (fun _=>?_);clear hK;refine ⟨by kernel_rfl,?_⟩;go_wp2_with fail
       go_meet
       exact ⟨rfl,G9⟩
     case rest =>
      obtain ⟨rfl,G⟩:=hcut;have X:=X.next G;have B:=bch B G (nl _);clear G HSS CD CO;by_cases hE3:E3=0
      ·subst hE3;have hri:(RN:Int)<=(s.size:Int):=by omega
       have hb9:¬ 9223372036854775807<RN+WT.size:=by omega
       go_wp2_with fail
       have G0:=(bR wc.heap.size wc).drew
       have HS9:Hid (∀ w',Below wc.heap.size wc w'->(fun w':World=>w'.cell? ⟨w.heap.size,0,none⟩=some (.int .i64 k)/\w'.cell? ⟨w.heap.size,1,none⟩=some (.int .i64 n)/\w'.cell? ⟨w.heap.size,2,none⟩=some (.string nm)/\w'.cell? ⟨w.heap.size,3,none⟩=some (.string tx)) w'):=fun w' h9=>⟨(X.next h9).c0,(X.next h9).c1,(X.next h9).c2,(X.next h9).c3⟩
       refine wp_region_held_drew (S:=fun w'=>w'.cell? ⟨w.heap.size,0,none⟩=some (.int .i64 k)/\w'.cell? ⟨w.heap.size,1,none⟩=some (.int .i64 n)/\w'.cell? ⟨w.heap.size,2,none⟩=some (.string nm)/\w'.cell? ⟨w.heap.size,3,none⟩=some (.string tx)) (by kernel_rfl) (HS9.out _ G0) (fun hS=>?_);refine wK (i:=0) (fuel:=7) (v:=.string s) rfl (by kernel_rfl) (by kernel_rfl) (by kernel_rfl) (fun _ _ _ h=>h) (Or.inl ⟨by rfl,fun w' h9=>by obtain ⟨k1,k2,k3,k4⟩:=h9;go_simp⟩) hS ?_;refine wK (i:=1) (fuel:=6) (v:=.int .i64 (RN:Nat)) rfl (by kernel_rfl) (by kernel_rfl) (by kernel_rfl) (fun _ _ _ h=>h) (Or.inl ⟨by rfl,fun w' h9=>by obtain ⟨k1,k2,k3,k4⟩:=h9;go_simp⟩) hS ?_;refine wK (i:=2) (fuel:=5) (v:=.string (s.extract 0 RN)) rfl (by kernel_rfl) (by kernel_rfl) (by kernel_rfl) (fun _ _ _ h=>h) (Or.inl ⟨by rfl,fun w' h9=>by obtain ⟨k1,k2,k3,k4⟩:=h9;go_simp⟩) hS ?_;refine wK (i:=3) (fuel:=4) (v:=.agg #[.int .i64 k,.int .i64 n,.string nm,.string tx]) rfl (by kernel_rfl) (by kernel_rfl) (by kernel_rfl) (fun _ _ _ h=>h) (Or.inl ⟨by rfl,fun w' h9=>by obtain ⟨k1,k2,k3,k4⟩:=h9;go_simp⟩) hS ?_;refine wY (rs:=[4]) (fuel:=3) (by kernel_rfl) (by simp) ?_;refine rC rfl (fun K hK=>?_) rN;go_simp
       go_at_call 41
       refine (CB _).mono ?_;rintro e w8 ⟨rfl,H8⟩;have G8:=bch G0 H8 (nl _);refine hK.out _ _ (HS9.out _ G8) (fun hS8=>?_);clear hK;refine wK (i:=5) (fuel:=2) (v:=.string (s.extract 0 RN++WT)) rfl (by kernel_rfl) (by kernel_rfl) (by kernel_rfl) (fun _ _ _ h=>h) (Or.inl ⟨by rfl,fun w' h9=>by obtain ⟨k1,k2,k3,k4⟩:=h9;go_simp⟩) hS8 ?_;refine wY (rs:=[6]) (fuel:=1) (by kernel_rfl) (by simp) ?_;refine rC rfl (fun K hK=>?_) rN;go_simp
       refine hK.out _ _ hS8 (fun _=>?_);clear hK;refine wY (rs:=[7]) (fuel:=0) (by kernel_rfl) (by simp) ?_;refine rC rfl (fun K hK=>?_) rN;go_simp
       refine hK.out _ _ hS8 (fun _=>?_);clear hK;refine ⟨by kernel_rfl,?_⟩;have B9:=bch B G8 (nl _);clear hS hS8;go_wp2_with fail
       go_ret2
       exact ⟨by rw [HR.out.1,HR.out.2,if_pos trivial];rfl,B9⟩
      ·have dE:(E3 == 0)=false:=by simpa using hE3
       go_wp2_with fail
       go_ret2
       exact ⟨by rw [HR.out.1,HR.out.2,if_neg hE3];rfl,B⟩
  ·have dA:(AE == 0)=false:=by simpa using hAE
   have eE:=HE.out;rw [if_neg (by simp),if_pos hAE] at eE;have eT:=HT.out;rw [eE,if_neg hAE] at eT
   have HR:=(show Hid (SE=AE/\ST=⟨#[]⟩) from ⟨eE,eT⟩)
   clear eE eT HE HT;go_wp2_with fail
   go_ret2
   exact ⟨by rw [HR.out.1,HR.out.2];rfl,B⟩
 ·have dR:(RE == 0)=false:=by simpa using hRE
  have eE:=HE.out;rw [if_pos hRE] at eE;have eT:=HT.out;rw [eE,if_neg hRE] at eT
  have HR:=(show Hid (SE=RE/\ST=⟨#[]⟩) from ⟨eE,eT⟩)
  clear eE eT HE HT;go_wp2_with fail
  go_ret2
  exact ⟨by rw [HR.out.1,HR.out.2];rfl,B⟩
end Go.Proofs.YtbjbjbpgmojcbabGreat
