/- A part of the proof: what it leans on. -/
import Derived.Defers
import Derived.Recover
import Derived.Test.YtbjbjbpgmojcbacGreatLk26
set_option maxRecDepth 8000
set_option maxHeartbeats 2000000
namespace Go.Proofs.YtbjbjbpgmojcbacGreat
open Go.RowKit
theorem ZdS (p q:Nat) (x:Int) (b:Bool) (w:World) (hc:w.cell? ⟨p,0,none⟩=some (.int .i64 x)) (hz:w.frozen? ⟨p,0,none⟩=false) (hc':w.cell? ⟨q,0,none⟩=some (.bool b)) (hz':w.frozen? ⟨q,0,none⟩=false) (hpq:p ≠ q) :
 CallsD Tryz.prog 109 #[.pointer (some ⟨p,0,none⟩),.pointer (some ⟨q,0,none⟩)] (.panicking PN) w fun e u' w' =>
  e=.returned (.tuple #[])/\u'=.panicking [{ v:=.iface 25 (.int .i64 1),recovered:=true }]/\w'=(w.setCell ⟨p,0,none⟩ (.int .i64 0)).setCell ⟨q,0,none⟩ (.bool false):=by
 unfold PN;refine callsD_of_wpS Tryz.func109 rfl fun c₀ cs hu=>?_
 apply wpS_seq;apply wpS_region;simp [wpOpsS,go_sem,recoverD,hu,Tryz.ntmps109,Exit.thenS];refine wpS_cond (t:=true) (by simp [Act.eval,Array.replicate]) ?_;simp only [if_true];apply wpS_region;have hne:(⟨p,0,none⟩:Addr) ≠ ⟨q,0,none⟩:=by intro e;exact hpq (congrArg Addr.block e)
 have h2:(w.setCell ⟨p,0,none⟩ (.int .i64 0)).cell? ⟨q,0,none⟩=some (.bool b):=(cO _ _ _ _ hne).trans hc';have h3:(w.setCell ⟨p,0,none⟩ (.int .i64 0)).frozen? ⟨q,0,none⟩=false:=by rw [World.frozen?_setCell];exact hz'
 simp [wpOpsS,go_sem,hc,hz,h2,h3,bodyPostS,results,Tryz.results109]
theorem Zkp (p q:Nat) (w:World) :
 CallsD Tryz.prog 109 #[.pointer (some ⟨p,0,none⟩),.pointer (some ⟨q,0,none⟩)] .returning w fun e u' w'=>e=.returned (.tuple #[])/\u'=.returning/\w'=w:=by
 refine callsD_of_wpS Tryz.func109 rfl fun c₀ cs hu=>?_
 apply wpS_seq;apply wpS_region;simp [wpOpsS,go_sem,recoverD,hu,Tryz.ntmps109,Exit.thenS];refine wpS_cond (t:=false) (by simp [Act.eval,Array.replicate]) ?_;simp only [Bool.false_eq_true,if_false];refine wpS_of_wp (wp_skip ?_)
 cases c₀
 simp_all [bodyPostS,results,Tryz.results109]
def Cl (w:World) (p:Nat) (v:Value):Prop:=w.cell? ⟨p,0,none⟩=some v/\w.frozen? ⟨p,0,none⟩=false
def W3 (s:ByteArray) (w:World):World:=((w.alloc (.cells #[.int .i64 0] 3 (0,0))).alloc (.cells #[.bool false] 4 (0,0))).alloc (.cells #[.string s] 138 (0,0))
theorem On.under {p lo:Nat} {w w':World} (h:On p w w') (hl:lo<=p) (hw:lo<=w.heap.size):Below lo w w':=⟨h.os,h.tape,h.output,h.size,fun k hk=>h.block k (by omega) (by simp;omega)⟩
theorem Bx.other {w:World} {b c:Nat} {x y:Value} (h:Bx w b x y) (hne:b ≠ c) (o:Nat) (u:Value):Bx (w.setCell ⟨c,o,none⟩ u) b x y :=
 ⟨(cO _ _ _ _ (by intro e;have:=congrArg Addr.block e;simp at this;omega)).trans h.c0,(cO _ _ _ _ (by intro e;have:=congrArg Addr.block e;simp at this;omega)).trans h.c1,by rw [World.frozen?_setCell];exact h.f0,by rw [World.frozen?_setCell];exact h.f1,by have:=h.lt;simpa [World.setCell] using this⟩
theorem Bx.on {w w':World} {b p:Nat} {x y:Value} (h:Bx w b x y) (g:On p w w') (hne:b ≠ p):Bx w' b x y:=by
 have hb:=g.block b h.lt (by simp;omega);exact ⟨(cB (w:=w) (a:=⟨b,0,none⟩) hb).trans h.c0,(cB (w:=w) (a:=⟨b,1,none⟩) hb).trans h.c1,(fB (w:=w) (a:=⟨b,0,none⟩) hb).trans h.f0,(fB (w:=w) (a:=⟨b,1,none⟩) hb).trans h.f1,nT h.lt g.size⟩
theorem ArOwn.put1 {lo:Nat} {w:World} {v1 v2:Value} {a:Ar.A} (h:ArOwn lo w v1 v2 a) {b:Nat} (hb:b<lo) (o:Nat) (u:Value):ArOwn lo (w.setCell ⟨b,o,none⟩ u) v1 v2 a:=by
 have g1:=Zc w ⟨b,o,none⟩ u;exact ⟨h.o1.kept g1 (.inr (Zat h.o1 hb).symm),h.o2.kept g1 (.inr (Zat h.o2 hb).symm),h.ne⟩
theorem Cl.on {w w':World} {b p:Nat} {x:Value} (h:Cl w b x) (g:On p w w') (hne:b ≠ p):Cl w' b x:=by
 have hb:=g.block b (cL w _ h.1) (by simp;omega);exact ⟨(cB (w:=w) (a:=⟨b,0,none⟩) hb).trans h.1,(fB (w:=w) (a:=⟨b,0,none⟩) hb).trans h.2⟩
theorem Cl.other {w:World} {b c:Nat} {x:Value} (h:Cl w b x) (hne:b ≠ c) (o:Nat) (u:Value):Cl (w.setCell ⟨c,o,none⟩ u) b x :=
 ⟨(cO _ _ _ _ (by intro e;have:=congrArg Addr.block e;simp at this;omega)).trans h.1,by rw [World.frozen?_setCell];exact h.2⟩
theorem ZqG (s:ByteArray) (u:World):Rdr (W3 s u) (u.heap.size+2) s/\Cl (W3 s u) u.heap.size (.int .i64 0)/\Cl (W3 s u) (u.heap.size+1) (.bool false)/\Below u.heap.size u (W3 s u)/\(W3 s u).heap.size=u.heap.size+3:=by
 have e1:(u.alloc (.cells #[.int .i64 0] 3 (0,0))).heap.size=u.heap.size+1:=by simp
 have e2:((u.alloc (.cells #[.int .i64 0] 3 (0,0))).alloc (.cells #[.bool false] 4 (0,0))).heap.size=u.heap.size+2:=by simp
 have g1:=Za (u.alloc (.cells #[.int .i64 0] 3 (0,0))) (.cells #[.bool false] 4 (0,0));have g2:=Za ((u.alloc (.cells #[.int .i64 0] 3 (0,0))).alloc (.cells #[.bool false] 4 (0,0))) (.cells #[.string s] 138 (0,0))
 have r:Rdr (W3 s u) (u.heap.size+2) s:=by
  rw [<-e2];exact ⟨cN _ _ _ 0,fN _ _ _ _ rfl⟩
 have k1:Cl (W3 s u) (u.heap.size+1) (.bool false):=by
  rw [<-e1];exact ⟨(g2.cell (p:=⟨_,0,none⟩) (by simp)).trans (cN _ _ _ 0),(g2.frozen (p:=⟨_,0,none⟩) (by simp)).trans (fN _ _ _ _ rfl)⟩
 have k0:Cl (W3 s u) u.heap.size (.int .i64 0):=⟨(g2.cell (p:=⟨_,0,none⟩) (by simp;omega)).trans ((g1.cell (p:=⟨_,0,none⟩) (by simp)).trans (cN _ _ _ 0)),(g2.frozen (p:=⟨_,0,none⟩) (by simp;omega)).trans ((g1.frozen (p:=⟨_,0,none⟩) (by simp)).trans (fN _ _ _ _ rfl))⟩
 exact ⟨r,k0,k1,bch (bch (Za _ _) g1 (nl _)) g2 (nl _),by unfold W3;simp⟩
theorem ZgN (cap:Value) (s:ByteArray) (w:World) (X:World->Prop)
 (C:Calls Tryz.prog 82 #[.pointer (some ⟨w.heap.size+2,0,none⟩),cap] (W3 s w) fun e w'=>e=.panicked PN/\(∃ x,Cl w' w.heap.size (.int .i64 x))/\(∃ x,Cl w' (w.heap.size+1) (.bool x))/\X w') :
 Calls Tryz.prog 81 #[.string s,.func (.func 82) #[] #[cap]] w fun e w'=>e=.returned (.tuple #[.int .i64 0,.bool false])/\∃ w0,X w0/\w'=(w0.setCell ⟨w.heap.size,0,none⟩ (.int .i64 0)).setCell ⟨w.heap.size+1,0,none⟩ (.bool false):=by
 have hmf:∀ (fn:Fn) (first cap:Array Value) (w:World),(Instr.makeFunc fn first cap).run Tryz.prog w=.ok (.func fn first cap) w:=fun _ _ _ _=>rfl
 unfold W3 at C;go_enter_defers Tryz.func81,Tryz.ntmps81
 go_wp2_with fail
 refine (Zbj _ _).mono ?_;rintro e w1 ⟨rfl,rfl⟩;go_wp2_with fail
 refine C.mono ?_;rintro e w2 ⟨rfl,⟨x,c0,z0⟩,⟨b,c1,z1⟩,hX⟩;go_wp2_with fail
 refine leaves_cons (f:=109) (args:=#[.pointer (some ⟨w.heap.size,0,none⟩),.pointer (some ⟨w.heap.size+1,0,none⟩)]) (by simp) (by simp [go_sem]) ?_;refine (ZdS _ _ _ _ _ c0 z0 c1 z1 (by omega)).mono ?_;rintro e u' w3 ⟨rfl,rfl,rfl⟩;have k0:((w2.setCell ⟨w.heap.size,0,none⟩ (.int .i64 0)).setCell ⟨w.heap.size+1,0,none⟩ (.bool false)).cell? ⟨w.heap.size,0,none⟩=some (.int .i64 0):=(cO _ _ _ _ (by intro e;have:=congrArg Addr.block e;simp at this)).trans (cS _ _ _ c0);have k1:((w2.setCell ⟨w.heap.size,0,none⟩ (.int .i64 0)).setCell ⟨w.heap.size+1,0,none⟩ (.bool false)).cell? ⟨w.heap.size+1,0,none⟩=some (.bool false):=cS _ _ _ ((cO _ _ _ _ (by intro e;have:=congrArg Addr.block e;simp at this)).trans c1)
 have hfin:∃ w0,X w0/\(w2.setCell ⟨w.heap.size,0,none⟩ (.int .i64 0)).setCell ⟨w.heap.size+1,0,none⟩ (.bool false)=(w0.setCell ⟨w.heap.size,0,none⟩ (.int .i64 0)).setCell ⟨w.heap.size+1,0,none⟩ (.bool false):=⟨w2,hX,rfl⟩
 generalize (w2.setCell ⟨w.heap.size,0,none⟩ (.int .i64 0)).setCell ⟨w.heap.size+1,0,none⟩ (.bool false)=wz at *;simp [Leaves,settle,results,Tryz.results81,go_sem,k0,k1];exact hfin
theorem ZfV (cap:Value) (s rest:ByteArray) (w:World) (X:World->Prop) (hs:s.size<=281474976710656) (hr:rest.size<=s.size)
 (C:Calls Tryz.prog 82 #[.pointer (some ⟨w.heap.size+2,0,none⟩),cap] (W3 s w) fun e w'=>e=.returned (.tuple #[])/\Rdr w' (w.heap.size+2) rest/\(∃ x,Cl w' w.heap.size (.int .i64 x))/\(∃ x,Cl w' (w.heap.size+1) (.bool x))/\X w') :
 Calls Tryz.prog 81 #[.string s,.func (.func 82) #[] #[cap]] w fun e w'=>e=.returned (.tuple #[.int .i64 ((s.size:Int) - (rest.size:Int)),.bool true])/\∃ w0,X w0/\w'=(w0.setCell ⟨w.heap.size,0,none⟩ (.int .i64 ((s.size:Int) - (rest.size:Int)))).setCell ⟨w.heap.size+1,0,none⟩ (.bool true):=by
 have hmf:∀ (fn:Fn) (first cap:Array Value) (w:World),(Instr.makeFunc fn first cap).run Tryz.prog w=.ok (.func fn first cap) w:=fun _ _ _ _=>rfl
 have hw:wrap64 ((s.size:Int) - (rest.size:Int))=(s.size:Int) - (rest.size:Int):=by unfold wrap64;omega
 unfold W3 at C;go_enter_defers Tryz.func81,Tryz.ntmps81
 go_wp2_with fail
 refine (Zbj _ _).mono ?_;rintro e w1 ⟨rfl,rfl⟩;go_wp2_with fail
 refine C.mono ?_;rintro e w2 ⟨rfl,R,⟨x,c0,z0⟩,⟨b,c1,z1⟩,hX⟩;have cr:=R.c;go_wp2_with fail
 refine leaves_cons (f:=109) (args:=#[.pointer (some ⟨w.heap.size,0,none⟩),.pointer (some ⟨w.heap.size+1,0,none⟩)]) (by simp) (by simp [go_sem]) ?_;refine (Zkp _ _ _).mono ?_;rintro e u' w3 ⟨rfl,rfl,rfl⟩;generalize hv:(s.size:Int) - (rest.size:Int)=d at *;have k0:((w2.setCell ⟨w.heap.size,0,none⟩ (.int .i64 d)).setCell ⟨w.heap.size+1,0,none⟩ (.bool true)).cell? ⟨w.heap.size,0,none⟩=some (.int .i64 d):=(cO _ _ _ _ (by intro e;have:=congrArg Addr.block e;simp at this)).trans (cS _ _ _ c0);have k1:((w2.setCell ⟨w.heap.size,0,none⟩ (.int .i64 d)).setCell ⟨w.heap.size+1,0,none⟩ (.bool true)).cell? ⟨w.heap.size+1,0,none⟩=some (.bool true):=cS _ _ _ ((cO _ _ _ _ (by intro e;have:=congrArg Addr.block e;simp at this)).trans c1)
 have hfin:∃ w0,X w0/\(w2.setCell ⟨w.heap.size,0,none⟩ (.int .i64 d)).setCell ⟨w.heap.size+1,0,none⟩ (.bool true)=(w0.setCell ⟨w.heap.size,0,none⟩ (.int .i64 d)).setCell ⟨w.heap.size+1,0,none⟩ (.bool true):=⟨w2,hX,rfl⟩
 generalize (w2.setCell ⟨w.heap.size,0,none⟩ (.int .i64 d)).setCell ⟨w.heap.size+1,0,none⟩ (.bool true)=wz at *;simp [Leaves,settle,results,Tryz.results81,go_sem,k0,k1];exact hfin
theorem On.set4 {p:Nat} {w w':World} (h:On p w w') {b:Nat} (hb:w.heap.size<=b) (v0 v1 v2 v3:Value):On p w ((((w'.setCell ⟨b,0,none⟩ v0).setCell ⟨b,1,none⟩ v1).setCell ⟨b,2,none⟩ v2).setCell ⟨b,3,none⟩ v3):=(((h.set1 hb 0 v0).set1 hb 1 v1).set1 hb 2 v2).set1 hb 3 v3
def XRd (r:Option Im.Act) (p:Nat) (w:World) (e:Ending) (w':World):Prop:=On p w w'/\match r with
 | none=>e=.panicked PN
 | some x=>e=.returned (.agg #[.int .i64 x.kind,.int .i64 x.n,.string x.name,.string x.text])
theorem Zes (s:ByteArray) (p:Nat) (w:World) (h:Rdr w p s) (hs:s.size<=281474976710656) :
 Calls Tryz.prog 83 #[.pointer (some ⟨p,0,none⟩)] w fun e w'=>XRd (Im.rIn s) p w e w':=by
 have hpl:=h.lt;have hN:Hid (Im.rIn s=none->∀ w',On p w w'->XRd (Im.rIn s) p w (.panicked PN) w'):=fun h9 w' h8=>by rw [h9];exact ⟨h8,rfl⟩
 have hY:Hid (∀ x,Im.rIn s=some x->∀ w',On p w w'->XRd (Im.rIn s) p w (.returned (.agg #[.int .i64 x.kind,.int .i64 x.n,.string x.name,.string x.text])) w'):=fun x h9 w' h8=>by rw [h9];exact ⟨h8,rfl⟩
 generalize XRd (Im.rIn s) p w=Q at *;have B1:=Za w (.cells #[.int .i64 0,.int .i64 0,.string ⟨#[]⟩,.string ⟨#[]⟩] 29 (0,0));have B2:=Za (w.alloc (.cells #[.int .i64 0,.int .i64 0,.string ⟨#[]⟩,.string ⟨#[]⟩] 29 (0,0))) (.cells #[.int .i64 0,.int .i64 0,.string ⟨#[]⟩,.string ⟨#[]⟩] 29 (0,0));have Y:=(XB.new w 29 0 0 ⟨#[]⟩ ⟨#[]⟩).next B2;have X:=XB.new (w.alloc (.cells #[.int .i64 0,.int .i64 0,.string ⟨#[]⟩,.string ⟨#[]⟩] 29 (0,0))) 29 0 0 ⟨#[]⟩ ⟨#[]⟩;rw [show (w.alloc (.cells #[.int .i64 0,.int .i64 0,.string ⟨#[]⟩,.string ⟨#[]⟩] 29 (0,0))).heap.size=w.heap.size+1 by simp] at X;have B:=bch B1 B2 (nl _);have G0:On p w _:=On.of B;have R:=h.below B;clear h B1 B2 B;go_enter Tryz.func83,Tryz.ntmps83
 go_wp2_with fail
 generalize ((w.alloc (.cells #[.int .i64 0,.int .i64 0,.string ⟨#[]⟩,.string ⟨#[]⟩] 29 (0,0))).alloc (.cells #[.int .i64 0,.int .i64 0,.string ⟨#[]⟩,.string ⟨#[]⟩] 29 (0,0)))=w0 at *;have C:=ZcQ s p w0 R hs;unfold ZE at C
 cases h1:Im.rNum s with
 | none =>
  rw [h1] at C;simp only at C;refine C.mono ?_;rintro e w1 ⟨G,rfl⟩;have hq:=hN.out (by simp only [Im.rIn,Im.rIn4,h1]) _ (G0.past G);go_wp2_with fail
  exact ⟨rfl,hq⟩
 | some y =>
  obtain ⟨k,r1⟩:=y;rw [h1] at C;simp only at C;refine C.mono ?_;rintro e w1 ⟨G,rfl,R'⟩;have hs1:r1.size<=281474976710656:=nt (Zns Im.ZbD h1) hs;have X':=X.on G (by omega);have Y':=(Y.on G (by omega)).far (p:=w.heap.size+1) (o:=0) (by omega) (.int .i64 (k:Nat));have G':=(G0.past G).set1 (b:=w.heap.size+1) (by omega) 0 (.int .i64 (k:Nat));have R'':=R'.low (b:=w.heap.size+1) (by omega) 0 (.int .i64 (k:Nat));have X'':=X'.s0 (k:Nat);have c9:=X'.c0;have f9:=X'.f 0;clear C X Y R G0 G R' X';go_wp2_with fail
  clear c9 f9;generalize (w1.setCell ⟨w.heap.size+1,0,none⟩ (.int .i64 (k:Nat)))=v1 at *;have X:=X'';have Y:=Y';have R:=R'';have G0:=G';clear X'' Y' R'' G';have C:=ZcQ r1 p v1 R hs1;unfold ZE at C
  cases h2:Im.rNum r1 with
  | none =>
   rw [h2] at C;simp only at C;refine C.mono ?_;rintro e w1 ⟨G,rfl⟩;have hq:=hN.out (by simp only [Im.rIn,Im.rIn4,h1,h2]) _ (G0.past G);go_wp2_with fail
   exact ⟨rfl,hq⟩
  | some y =>
   obtain ⟨n,r2⟩:=y;rw [h2] at C;simp only at C;refine C.mono ?_;rintro e w2 ⟨G,rfl,R'⟩;have hs2:r2.size<=281474976710656:=nt (Zns Im.ZbD h2) hs1;have X':=X.on G (by omega);have Y':=(Y.on G (by omega)).far (p:=w.heap.size+1) (o:=1) (by omega) (.int .i64 (n:Nat));have G':=(G0.past G).set1 (b:=w.heap.size+1) (by omega) 1 (.int .i64 (n:Nat));have R'':=R'.low (b:=w.heap.size+1) (by omega) 1 (.int .i64 (n:Nat));have X'':=X'.s1 (n:Nat);have c9:=X'.c1;have f9:=X'.f 1;clear C X Y R G0 G R' X';go_wp2_with fail
   clear c9 f9;generalize (w2.setCell ⟨w.heap.size+1,1,none⟩ (.int .i64 (n:Nat)))=v2 at *;have X:=X'';have Y:=Y';have R:=R'';have G0:=G';clear X'' Y' R'' G';have C:=ZeQ r2 p v2 R hs2;unfold ZE at C
   cases h3:Im.rCnt 512 r2 with
   | none =>
    rw [h3] at C;simp only at C;refine C.mono ?_;rintro e w1 ⟨G,rfl⟩;have hq:=hN.out (by simp only [Im.rIn,Im.rIn4,h1,h2,h3]) _ (G0.past G);go_wp2_with fail
    exact ⟨rfl,hq⟩
   | some y =>
    obtain ⟨nm,r3⟩:=y;rw [h3] at C;simp only at C;refine C.mono ?_;rintro e w3 ⟨G,rfl,R'⟩;have hs3:r3.size<=281474976710656:=nt (Zns (Im.ZbC 512) h3) hs2;have X':=X.on G (by omega);have Y':=(Y.on G (by omega)).far (p:=w.heap.size+1) (o:=2) (by omega) (.string nm);have G':=(G0.past G).set1 (b:=w.heap.size+1) (by omega) 2 (.string nm);have R'':=R'.low (b:=w.heap.size+1) (by omega) 2 (.string nm);have X'':=X'.s2 nm;have c9:=X'.c2;have f9:=X'.f 2;clear C X Y R G0 G R' X';go_wp2_with fail
    clear c9 f9;generalize (w3.setCell ⟨w.heap.size+1,2,none⟩ (.string nm))=v3 at *;have X:=X'';have Y:=Y';have R:=R'';have G0:=G';clear X'' Y' R'' G';have C:=ZeQ r3 p v3 R hs3;unfold ZE at C
    cases h4:Im.rCnt 512 r3 with
    | none =>
     rw [h4] at C;simp only at C;refine C.mono ?_;rintro e w1 ⟨G,rfl⟩;have hq:=hN.out (by simp only [Im.rIn,Im.rIn4,h1,h2,h3,h4]) _ (G0.past G);go_wp2_with fail
     exact ⟨rfl,hq⟩
    | some y =>
     obtain ⟨tx,r4⟩:=y;rw [h4] at C;simp only at C;refine C.mono ?_;rintro e w4 ⟨G,rfl,R'⟩;have hs4:r4.size<=281474976710656:=nt (Zns (Im.ZbC 512) h4) hs3;have X':=X.on G (by omega);have Y':=(Y.on G (by omega)).far (p:=w.heap.size+1) (o:=3) (by omega) (.string tx);have G':=(G0.past G).set1 (b:=w.heap.size+1) (by omega) 3 (.string tx);have R'':=R'.low (b:=w.heap.size+1) (by omega) 3 (.string tx);have X'':=X'.s3 tx;have c9:=X'.c3;have f9:=X'.f 3;clear C X Y R G0 G R' X';go_wp2_with fail
     clear c9 f9;generalize (w4.setCell ⟨w.heap.size+1,3,none⟩ (.string tx))=v4 at *;have X:=X'';have Y:=Y';have R:=R'';have G0:=G';clear X'' Y' R'' G';have C:=ZlB r4 p v4 R;unfold ZE at C;by_cases hz:r4.size=0
     ·rw [show rEnd r4=some ((),r4) from if_pos hz] at C;simp only at C;have hr:Im.rIn s=some ⟨(k:Nat),(n:Nat),nm,tx⟩:=by simp only [Im.rIn,Im.rIn4,h1,h2,h3,h4];exact if_pos hz
      refine C.mono ?_;rintro e w5 ⟨G,rfl,_⟩;have X':=X.on G (by omega);have Y':=Y.on G (by omega);have hq:=hY.out _ hr _ ((G0.past G).set4 (b:=w.heap.size) (nl _) (.int .i64 (k:Nat)) (.int .i64 (n:Nat)) (.string nm) (.string tx));have Y2:=Y'.set (k:Nat) (n:Nat) nm tx;obtain ⟨x0,x1,x2,x3,_⟩:=X';obtain ⟨y0,y1,y2,y3,yf⟩:=Y';have z0:=yf 0;have z1:=yf 1;have z2:=yf 2;have z3:=yf 3;clear C X Y R G0 G yf hN hY hr;go_wp2_with fail
      clear x0 x1 x2 x3 y0 y1 y2 y3 z0 z1 z2 z3;obtain ⟨y0,y1,y2,y3,_⟩:=Y2;generalize ((((w5.setCell ⟨w.heap.size,0,none⟩ (.int .i64 (k:Nat))).setCell ⟨w.heap.size,1,none⟩ (.int .i64 (n:Nat))).setCell ⟨w.heap.size,2,none⟩ (.string nm)).setCell ⟨w.heap.size,3,none⟩ (.string tx))=wz at *;exact bodyPost_ret (v:=.agg #[.int .i64 (k:Nat),.int .i64 (n:Nat),.string nm,.string tx]) (by simp [results,Tryz.results83,go_sem,y0,y1,y2,y3]) rfl hq
     ·rw [show rEnd r4=none from if_neg hz] at C;simp only at C;have hr:Im.rIn s=none:=by simp only [Im.rIn,Im.rIn4,h1,h2,h3,h4];exact if_neg hz
      refine C.mono ?_;rintro e w5 ⟨G,rfl⟩;have hq:=hN.out hr _ (G0.past G);go_wp2_with fail
      exact ⟨rfl,hq⟩
theorem On.after {p:Nat} {w w1 w2:World} (h:On p w w1) (g:Below w.heap.size w1 w2):On p w w2:=⟨g.os.trans h.os,g.tape.trans h.tape,g.output.trans h.output,Nat.le_trans h.size g.size,fun k hk hne=>(g.block k hk).trans (h.block k hk hne)⟩
theorem ZlU (w:World) (T:TypeId) (t:ByteArray):Rdr (w.alloc (.cells #[.string t] T (0,0))) w.heap.size t:=⟨World.cell?_alloc_new _ _ _ 0,World.frozen?_alloc_at _ _ _ _ rfl⟩
theorem ZhL (s:ByteArray) (p c:Nat) (w:World) (h:Rdr w p s) (hs:s.size<=281474976710656) (hr:Im.rAct s=none) :
 Calls Tryz.prog 82 #[.pointer (some ⟨p,0,none⟩),.pointer (some ⟨c,0,none⟩)] w fun e w'=>e=.panicked PN/\On p w w':=by
 have C:=ZcD s p w h hs;unfold ZE at C
 cases h1:Im.rCnt 2147483647 s with
 | none =>
  rw [h1] at C;simp only at C;clear h hr h1;go_enter Tryz.func82,Tryz.ntmps82
  go_wp2_with fail
  refine C.mono ?_;rintro e w1 ⟨G,rfl⟩;go_wp2_with fail
  exact ⟨rfl,rfl,G⟩
 | some y =>
  obtain ⟨t,r⟩:=y;rw [h1] at C;simp only at C;have ht:t.size<=281474976710656:=nt ((Im.ZbC _ s t r).1 h1).1.1 (by decide)
  have hi:Im.rIn t=none:=by
   cases hi:Im.rIn t with
   | none=>rfl
   | some x=>simp only [Im.rAct,h1,hi] at hr;cases hr
  clear h hr h1;go_enter Tryz.func82,Tryz.ntmps82
  go_wp2_with fail
  refine C.mono ?_;rintro e w1 ⟨G,rfl,R⟩;go_wp2_with fail
  refine (Zbj _ _).mono ?_;rintro e w2 ⟨rfl,rfl⟩;have C2:=Zes t w1.heap.size _ (ZlU w1 138 t) ht;unfold XRd at C2;rw [hi] at C2;simp only at C2;have hsz:=G.size;go_wp2_with fail
  refine C2.mono ?_;rintro e w3 ⟨G3,rfl⟩;have G4:=G.after (((Za w1 (.cells #[.string t] 138 (0,0))).mono hsz).trans (G3.under hsz (by simp;omega)));go_wp2_with fail
  exact ⟨rfl,rfl,G4⟩
theorem ZiH (s r:ByteArray) (p c:Nat) (k n:Int) (nm tx:ByteArray) (x:Im.Act) (w:World) (h:Rdr w p s) (hs:s.size<=281474976710656) (hr:Im.rAct s=some (x,r)) (hx:XB w c k n nm tx) (hne:c ≠ p) :
 Calls Tryz.prog 82 #[.pointer (some ⟨p,0,none⟩),.pointer (some ⟨c,0,none⟩)] w fun e w'=>e=.returned (.tuple #[])/\∃ w1,On p w w1/\w'=(((w1.setCell ⟨c,0,none⟩ (.int .i64 x.kind)).setCell ⟨c,1,none⟩ (.int .i64 x.n)).setCell ⟨c,2,none⟩ (.string x.name)).setCell ⟨c,3,none⟩ (.string x.text)/\XB w' c x.kind x.n x.name x.text/\Rdr w' p r:=by
 have C:=ZcD s p w h hs;unfold ZE at C
 cases h1:Im.rCnt 2147483647 s with
 | none=>simp only [Im.rAct,h1] at hr;cases hr
 | some y =>
  obtain ⟨t,r'⟩:=y;rw [h1] at C;simp only at C;have ht:t.size<=281474976710656:=nt ((Im.ZbC _ s t r').1 h1).1.1 (by decide)
  obtain ⟨hi,rfl⟩:Im.rIn t=some x/\r'=r:=by
   cases hi:Im.rIn t with
   | none=>simp only [Im.rAct,h1,hi] at hr;cases hr
   | some x' =>
    simp only [Im.rAct,h1,hi,Option.some.injEq,Prod.mk.injEq] at hr;exact ⟨by rw [hr.1],hr.2⟩
  have hcl:=hx.lt;have hpl:=h.lt;have HX:Hid (∀ w',On p w w'->XB w' c k n nm tx):=fun w' h9=>hx.on h9 hne
  clear h hr h1 hx;go_enter Tryz.func82,Tryz.ntmps82
  go_wp2_with fail
  refine C.mono ?_;rintro e w1 ⟨G,rfl,R⟩;go_wp2_with fail
  refine (Zbj _ _).mono ?_;rintro e w2 ⟨rfl,rfl⟩;have C2:=Zes t w1.heap.size _ (ZlU w1 138 t) ht;unfold XRd at C2;rw [hi] at C2;simp only at C2;have hsz:=G.size;go_wp2_with fail
  refine C2.mono ?_;rintro e w3 ⟨G3,rfl⟩;have G4:=G.after (((Za w1 (.cells #[.string t] 138 (0,0))).mono hsz).trans (G3.under hsz (by simp;omega)))
  have R4:=(R.below (Za w1 (.cells #[.string t] 138 (0,0))))
  have R5:Rdr w3 p r':=⟨(cB (w:=_) (a:=⟨p,0,none⟩) (G3.block p R4.lt (by simp;omega))).trans R4.c,(fB (w:=_) (a:=⟨p,0,none⟩) (G3.block p R4.lt (by simp;omega))).trans R4.f⟩
  have X4:=HX.out _ G4;have X5:=X4.set x.kind x.n x.name x.text;obtain ⟨x0,x1,x2,x3,xf⟩:=X4;have z0:=xf 0;have z1:=xf 1;have z2:=xf 2;have z3:=xf 3;clear xf C C2 R R4 G G3 HX;go_wp2_with fail
  go_end0
  exact ⟨rfl,w3,G4,rfl,X5,(((R5.low (b:=c) (by omega) 0 _).low (b:=c) (by omega) 1 _).low (b:=c) (by omega) 2 _).low (b:=c) (by omega) 3 _⟩
theorem Zso {s r:ByteArray} {x:Im.Act} (h:Im.rAct s=some (x,r)):r.size<=s.size:=Zns Im.Zck h
theorem Znd (s:ByteArray) (c:Nat) (u:World) (hs:s.size<=281474976710656) (hr:Im.rAct s=none) :
 Calls Tryz.prog 81 #[.string s,.func (.func 82) #[] #[.pointer (some ⟨c,0,none⟩)]] u fun e w'=>e=.returned (.tuple #[.int .i64 0,.bool false])/\Below u.heap.size u w':=by
 obtain ⟨R,K0,K1,G,hz⟩:=ZqG s u;refine (ZgN _ s u (fun w0=>On (u.heap.size+2) (W3 s u) w0) ((ZhL s (u.heap.size+2) c (W3 s u) R hs hr).mono ?_)).mono ?_
 ·rintro e w' ⟨rfl,G1⟩;exact ⟨rfl,⟨_,K0.on G1 (by omega)⟩,⟨_,K1.on G1 (by omega)⟩,G1⟩
 ·rintro e w' ⟨rfl,w0,G1,rfl⟩;exact ⟨rfl,((G.trans (G1.under (by omega) (by omega))).setCell (p:=⟨u.heap.size,0,none⟩) (nl _) _).setCell (p:=⟨u.heap.size+1,0,none⟩) (by simp) _⟩
theorem Cl.four {w:World} {b c:Nat} {x:Value} (h:Cl w b x) (hne:b ≠ c) (v0 v1 v2 v3:Value):Cl ((((w.setCell ⟨c,0,none⟩ v0).setCell ⟨c,1,none⟩ v1).setCell ⟨c,2,none⟩ v2).setCell ⟨c,3,none⟩ v3) b x:=(((h.other hne 0 v0).other hne 1 v1).other hne 2 v2).other hne 3 v3
theorem ZkO (s r:ByteArray) (c:Nat) (k n:Int) (nm tx:ByteArray) (x:Im.Act) (u:World) (hs:s.size<=281474976710656) (hr:Im.rAct s=some (x,r)) (hx:XB u c k n nm tx) :
 Calls Tryz.prog 81 #[.string s,.func (.func 82) #[] #[.pointer (some ⟨c,0,none⟩)]] u fun e w'=>e=.returned (.tuple #[.int .i64 ((s.size:Int) - (r.size:Int)),.bool true])/\XB w' c x.kind x.n x.name x.text/\On c u w':=by
 obtain ⟨R,K0,K1,G,hz⟩:=ZqG s u;have hcl:=hx.lt;refine (ZfV _ s r u (fun w0=>∃ w1,On (u.heap.size+2) (W3 s u) w1/\w0=(((w1.setCell ⟨c,0,none⟩ (.int .i64 x.kind)).setCell ⟨c,1,none⟩ (.int .i64 x.n)).setCell ⟨c,2,none⟩ (.string x.name)).setCell ⟨c,3,none⟩ (.string x.text)/\XB w0 c x.kind x.n x.name x.text) hs (Zso hr) ((ZiH s r (u.heap.size+2) c k n nm tx x (W3 s u) R hs hr (hx.next G) (by omega)).mono ?_)).mono ?_
 ·rintro e w' ⟨rfl,w1,G1,rfl,X,R'⟩;exact ⟨rfl,R',⟨_,(K0.on G1 (by omega)).four (by omega) _ _ _ _⟩,⟨_,(K1.on G1 (by omega)).four (by omega) _ _ _ _⟩,w1,G1,rfl,X⟩
 ·rintro e w' ⟨rfl,w0,⟨w1,G1,hw0,X⟩,rfl⟩;refine ⟨rfl,(X.far (p:=u.heap.size) (o:=0) (by omega) _).far (p:=u.heap.size+1) (o:=0) (by omega) _,?_⟩;have G2:=G.trans (G1.under (lo:=u.heap.size) (by omega) (by omega));have k1:w0.os=w1.os:=by rw [hw0];rfl
  have k2:w0.tape=w1.tape:=by rw [hw0];rfl
  have k3:w0.output=w1.output:=by rw [hw0];rfl
  refine ⟨k1.trans G2.os,k2.trans G2.tape,k3.trans G2.output,?_,fun k hk hne=>?_⟩
  ·have:=G2.size;rw [hw0];simpa [World.setCell] using this
  ·have hkc:k ≠ c:=fun e=>hne (by rw [e])
   rw [Below.heap_setCell _ _ _ _ (by simp;omega),Below.heap_setCell _ _ _ _ (by simp;omega),hw0,Below.heap_setCell _ _ _ _ (by simpa using hkc),Below.heap_setCell _ _ _ _ (by simpa using hkc),Below.heap_setCell _ _ _ _ (by simpa using hkc),Below.heap_setCell _ _ _ _ (by simpa using hkc)];exact G2.block k hk
theorem Zlr (s:ByteArray) (w:World) (hs:s.size<=281474976710656) (hr:Im.rAct s=none) :
 Calls Tryz.prog 51 #[.string s] w fun e w'=>e=.returned (.tuple #[.agg #[.int .i64 0,.int .i64 0,.string ⟨#[]⟩,.string ⟨#[]⟩],.int .i64 0])/\Below w.heap.size w w':=by
 have hmf:∀ (fn:Fn) (first cap:Array Value) (w:World),(Instr.makeFunc fn first cap).run Tryz.prog w=.ok (.func fn first cap) w:=fun _ _ _ _=>rfl
 have B1:=Za w (.cells #[.int .i64 0,.int .i64 0,.string ⟨#[]⟩,.string ⟨#[]⟩] 29 (0,0));have B2:=Za (w.alloc (.cells #[.int .i64 0,.int .i64 0,.string ⟨#[]⟩,.string ⟨#[]⟩] 29 (0,0))) (.cells #[.int .i64 0,.int .i64 0,.string ⟨#[]⟩,.string ⟨#[]⟩] 29 (0,0));have Y:=(XB.new w 29 0 0 ⟨#[]⟩ ⟨#[]⟩).next B2;have B:=bch B1 B2 (nl _);have C:=Znd s (w.heap.size+1) ((w.alloc (.cells #[.int .i64 0,.int .i64 0,.string ⟨#[]⟩,.string ⟨#[]⟩] 29 (0,0))).alloc (.cells #[.int .i64 0,.int .i64 0,.string ⟨#[]⟩,.string ⟨#[]⟩] 29 (0,0))) hs hr;clear B1 B2 hr;go_enter Tryz.func51,Tryz.ntmps51
 go_wp2_with fail
 generalize ((w.alloc (.cells #[.int .i64 0,.int .i64 0,.string ⟨#[]⟩,.string ⟨#[]⟩] 29 (0,0))).alloc (.cells #[.int .i64 0,.int .i64 0,.string ⟨#[]⟩,.string ⟨#[]⟩] 29 (0,0)))=w0 at *;refine C.mono ?_;rintro e w1 ⟨rfl,G⟩;have Y1:=Y.next G;have B3:=ZeS (bch B G (nl _)) (b:=w.heap.size) (nl _) (.int .i64 0) (.int .i64 0) (.string ⟨#[]⟩) (.string ⟨#[]⟩);have Y2:=Y1.set 0 0 ⟨#[]⟩ ⟨#[]⟩;obtain ⟨y0,y1,y2,y3,yf⟩:=Y1;have z0:=yf 0;have z1:=yf 1;have z2:=yf 2;have z3:=yf 3;clear C Y B G yf;go_wp2_with fail
 clear y0 y1 y2 y3 z0 z1 z2 z3;obtain ⟨y0,y1,y2,y3,_⟩:=Y2;generalize ((((w1.setCell ⟨w.heap.size,0,none⟩ (.int .i64 0)).setCell ⟨w.heap.size,1,none⟩ (.int .i64 0)).setCell ⟨w.heap.size,2,none⟩ (.string ⟨#[]⟩)).setCell ⟨w.heap.size,3,none⟩ (.string ⟨#[]⟩))=wz at *;exact bodyPost_ret (v:=.tuple #[.agg #[.int .i64 0,.int .i64 0,.string ⟨#[]⟩,.string ⟨#[]⟩],.int .i64 0]) (by simp [results,Tryz.results51,go_sem,y0,y1,y2,y3]) rfl ⟨rfl,B3⟩
theorem Zke (s r:ByteArray) (k n:Int) (nm tx:ByteArray) (w:World) (hs:s.size<=281474976710656) (hr:Im.rAct s=some (⟨k,n,nm,tx⟩,r)) :
 Calls Tryz.prog 51 #[.string s] w fun e w'=>e=.returned (.tuple #[.agg #[.int .i64 k,.int .i64 n,.string nm,.string tx],.int .i64 ((s.size:Int) - (r.size:Int))])/\Below w.heap.size w w':=by
 have hmf:∀ (fn:Fn) (first cap:Array Value) (w:World),(Instr.makeFunc fn first cap).run Tryz.prog w=.ok (.func fn first cap) w:=fun _ _ _ _=>rfl
 have B1:=Za w (.cells #[.int .i64 0,.int .i64 0,.string ⟨#[]⟩,.string ⟨#[]⟩] 29 (0,0));have B2:=Za (w.alloc (.cells #[.int .i64 0,.int .i64 0,.string ⟨#[]⟩,.string ⟨#[]⟩] 29 (0,0))) (.cells #[.int .i64 0,.int .i64 0,.string ⟨#[]⟩,.string ⟨#[]⟩] 29 (0,0));have Y:=(XB.new w 29 0 0 ⟨#[]⟩ ⟨#[]⟩).next B2;have X:=XB.new (w.alloc (.cells #[.int .i64 0,.int .i64 0,.string ⟨#[]⟩,.string ⟨#[]⟩] 29 (0,0))) 29 0 0 ⟨#[]⟩ ⟨#[]⟩;rw [show (w.alloc (.cells #[.int .i64 0,.int .i64 0,.string ⟨#[]⟩,.string ⟨#[]⟩] 29 (0,0))).heap.size=w.heap.size+1 by simp] at X;have B:=bch B1 B2 (nl _);have C:=ZkO s r (w.heap.size+1) 0 0 ⟨#[]⟩ ⟨#[]⟩ ⟨k,n,nm,tx⟩ ((w.alloc (.cells #[.int .i64 0,.int .i64 0,.string ⟨#[]⟩,.string ⟨#[]⟩] 29 (0,0))).alloc (.cells #[.int .i64 0,.int .i64 0,.string ⟨#[]⟩,.string ⟨#[]⟩] 29 (0,0))) hs hr X;have hxl:=X.lt;clear B1 B2 hr X;generalize hd:(s.size:Int) - (r.size:Int)=d at *;clear hd;go_enter Tryz.func51,Tryz.ntmps51
 go_wp2_with fail
 generalize ((w.alloc (.cells #[.int .i64 0,.int .i64 0,.string ⟨#[]⟩,.string ⟨#[]⟩] 29 (0,0))).alloc (.cells #[.int .i64 0,.int .i64 0,.string ⟨#[]⟩,.string ⟨#[]⟩] 29 (0,0)))=w0 at *;refine C.mono ?_;rintro e w1 ⟨rfl,X1,G⟩;have Y1:=Y.on G (by omega);have B2:=B.trans (G.under (lo:=w.heap.size) (by omega) (by omega));have B3:=ZeS B2 (b:=w.heap.size) (nl _) (.int .i64 k) (.int .i64 n) (.string nm) (.string tx);have Y2:=Y1.set k n nm tx;obtain ⟨x0,x1,x2,x3,_⟩:=X1;obtain ⟨y0,y1,y2,y3,yf⟩:=Y1;have z0:=yf 0;have z1:=yf 1;have z2:=yf 2;have z3:=yf 3;clear C Y B G yf B2;go_wp2_with fail
 clear x0 x1 x2 x3 y0 y1 y2 y3 z0 z1 z2 z3;obtain ⟨y0,y1,y2,y3,_⟩:=Y2;generalize ((((w1.setCell ⟨w.heap.size,0,none⟩ (.int .i64 k)).setCell ⟨w.heap.size,1,none⟩ (.int .i64 n)).setCell ⟨w.heap.size,2,none⟩ (.string nm)).setCell ⟨w.heap.size,3,none⟩ (.string tx))=wz at *;exact bodyPost_ret (v:=.tuple #[.agg #[.int .i64 k,.int .i64 n,.string nm,.string tx],.int .i64 d]) (by simp [results,Tryz.results51,go_sem,y0,y1,y2,y3]) rfl ⟨rfl,B3⟩
section
variable {P:Program} {w:World}
theorem ZdX (w:World) (t ty e:TypeId) (i:TypeInfo) (ht:P.underlying t=some (.slice e)) (hi:P.info? e=some i) (b0:Addr) (n c0:Nat) (hle:n<=c0) (p:Option Addr) (c:Nat) :
 (Builtin.append_ #[t,t] ty #[.slice (some b0) n c0,.slice p 0 c]).run P w=.ok (.slice (some b0) n c0) w:=by
 cases p <;> simp [Builtin.append_,run_underlying ht,sizeOf,typeInfo,hi,Builtin.lenOf,Builtin.firstCells,loadCells,loadCellsFrom,storeCells,hle]
theorem Zac {ops:Array Oper} {rest:List Oper} {o:Oper} {a:Act} {Q:Exit->Act->World->Prop} (hgd:o.guard=none) (s x:Operand) (t:TypeId)
 (ho:o.op=.call { callee:=.builtin .append,args:=#[s,x],argTypes:=#[t,t] })
 (base:Nat) (e:TypeId) (i:TypeInfo) (z:Value) (size bytes:Nat) (ht:P.underlying t=some (.slice e)) (hi:P.info? e=some i) (hz:i.zero=some z)
 (hsize:i.size=size) (hby:i.bytes=bytes) (hzs:z.cells.size=size) (hsz:0<size)
 (g0 n c0:Nat) (xs:List Value) (hs:a.eval s=.slice (some ⟨g0,0,none⟩) n c0) (hown:w.ownsRow base e size (.slice (some ⟨g0,0,none⟩) n c0) n xs)
 (ad:Option Addr) (m c:Nat) (news:List Value) (hx:a.eval x=.slice ad m c) (hl:news.length=m*size) (hnews:m=0\/∃ b,ad=some b/\∀ j u,news[j]?=some u->w.cell? (b.add j)=some u) (h1:∀ u ∈ news,u.oneCell'=true)
 (h63:n+m<=maxLen) (hbytes:(n+m)*bytes<=140737488355328) (hbase:base<=w.heap.size) (H:Nat) (hH:w.heap.size=H)
 (h:∀ g cap w',w'.ownsRow base e size (.slice (some ⟨g,0,none⟩) (n+m) cap) (n+m) (xs++news)->w.grownBy w' (some g0)->(g=g0\/g=H)->wpList P ops Q rest (a.put o.dst (.slice (some ⟨g,0,none⟩) (n+m) cap)) w'):wpList P ops Q (o :: rest) a w:=by
 by_cases hm:m=0
 ·subst hm;obtain rfl:news=[]:=lZ.1 (by rw [hl];omega)
  have hle:n<=c0:=by
   rcases hown.2 with ⟨h9,_⟩ | ⟨g,cap,cur,h9,_,_,h8,_⟩
   ·cases h9
   ·simp only [Value.slice.injEq] at h9;obtain ⟨_,_,rfl⟩:=h9;exact h8
  refine wpList_plain hgd fun K hK=>?_
  have hr:=ZdX (P:=P) w t o.type e i ht hi ⟨g0,0,none⟩ n c0 hle ad c;unfold Oper.wp execOp;simp only [ho,resolve,invoke,builtin,Sem.run_bind,Sem.run_pure,Result.andThen_ok,List.map_toArray,List.map_cons,List.map_nil,hs,hx,hr];have h9:=h g0 c0 w (by rw [Nat.add_zero,List.append_nil];exact hown) ⟨rfl,rfl,rfl,nl _,fun _ _ _=>rfl⟩ (.inl rfl);rw [Nat.add_zero] at h9;exact hK _ _ h9
 ·rcases hnews with h9 | ⟨b,rfl,hnews⟩
  ·exact absurd h9 hm
  ·refine zwL w hgd s x t ho base e i z size bytes ht hi hz hsize hby hzs hsz _ n xs hs hown b m c news hx hl hnews h1 (by omega) h63 hbytes hbase H hH (fun g cap w' h2 h3 h4 _=>h g cap w' h2 h3 ?_);rcases h4 with h4 | h4
   ·simp only [Value.ownBlock,Option.some.injEq] at h4;exact .inl h4.symm
   ·exact .inr h4
end
theorem CpS.put2 {w0 wr w2:World} {C lo g cap n1 m n2:Nat} {v1 v2:Value} {xs1 ys xs2:List Value} {o:Obj} (h:CpS w0 wr C lo v1 v2 n1 n2 xs1 xs2) (hg:(wr.alloc o).grownBy w2 v2.ownBlock)
 (ho:w2.ownsRow lo 47 5 (.slice (some ⟨g,0,none⟩) m cap) m ys) (hl:v2.ownBlock=some g\/g=(wr.alloc o).heap.size) :
 (w2.cell? ⟨C,1,none⟩=some v2/\w2.frozen? ⟨C,1,none⟩=false)/\CpS w0 (w2.setCell ⟨C,1,none⟩ (.slice (some ⟨g,0,none⟩) m cap)) C lo v1 (.slice (some ⟨g,0,none⟩) m cap) n1 m xs1 ys:=by
 have hB:=h.hb;have hlC:=h.hC;have hsz:(wr.alloc o).heap.size=wr.heap.size+1:=by simp
 have ha:=h.below ((bR _ _).alloc (nl _) o);have n0:some C ≠ v2.ownBlock:=h.a2.symm;have k0:=Zd hg ha.c0 n0;have k1:=Zd hg ha.c1 n0;have q0:=Zo hg (by omega) ha.f0 n0;have q1:=Zo hg (by omega) ha.f1 n0;have hsg:=Zc w2 ⟨C,1,none⟩ (.slice (some ⟨g,0,none⟩) m cap);have hz:(wr.alloc o).heap.size<=w2.heap.size:=hg.size
 have hgC:g ≠ C:=by
  rcases hl with hl | hl
  ·rintro rfl;exact h.a2 hl
  ·omega
 refine ⟨⟨k1,q1⟩,?_,cS _ _ _ k1,by rw [World.frozen?_setCell];exact q0,by rw [World.frozen?_setCell];exact q1,?_,ho.kept hsg (.inr (by simp [Value.ownBlock];exact hgC)),?_,h.a1,by simp [Value.ownBlock];exact hgC,hlC,?_,?_⟩
 ·exact (cO w2 _ _ _ (by intro e;have:=congrArg Addr.off e;simp at this)).trans k0
 ·refine (ha.o1.kept hg ?_).kept hsg (.inr h.a1)
  cases hv:v1.ownBlock with
  | none=>exact .inl rfl
  | some j=>exact .inr (fun e=>h.ne j hv e.symm)
 ·intro j hj e;simp [Value.ownBlock] at e;subst e;rcases hl with hl | hl
  ·exact h.ne g hj hl
  ·have:=(h.o1.lt g hj).2;omega
 ·have:=hsg.size;omega
 ·exact ((h.bel.alloc (by omega) o).grown hg (by omega) (fun j hj=>(h.o2.lt j hj).1)).setCell hlC _
theorem CpS.mid2 {w0 wr w2:World} {C lo n1 n2:Nat} {v1 v2:Value} {xs1 xs2:List Value} {o:Obj} (h:CpS w0 wr C lo v1 v2 n1 n2 xs1 xs2) (hg:(wr.alloc o).grownBy w2 v2.ownBlock):w2.cell? ⟨C,0,none⟩=some v1/\Below lo w0 w2:=by
 have hB:=h.hb;have hlC:=h.hC;have hsz:(wr.alloc o).heap.size=wr.heap.size+1:=by simp
 have ha:=h.below ((bR _ _).alloc (nl _) o);exact ⟨Zd hg ha.c0 h.a2.symm,(h.bel.alloc (by omega) o).grown hg (by omega) (fun j hj=>(h.o2.lt j hj).1)⟩
theorem CpS.new1 {w0 wr:World} {lo g cap n:Nat} {xs:List Value} (hb:Below lo w0 wr) (hl:lo<=wr.heap.size) (h:wr.ownsRow lo 9 1 (.slice (some ⟨g,0,none⟩) n cap) n xs) :
 CpS w0 (wr.alloc (.cells #[.slice (some ⟨g,0,none⟩) n cap,.slice none 0 0] 33 (0,0))) wr.heap.size lo (.slice (some ⟨g,0,none⟩) n cap) (.slice none 0 0) n 0 xs []:=by
 have hg:=(h.lt g rfl).2;exact ⟨cN _ _ _ 0,cN _ _ _ 1,fN _ _ _ _ rfl,fN _ _ _ _ rfl,h.alloc _,⟨rfl,.inl ⟨rfl,rfl⟩⟩,fun j _ e=>by simp [Value.ownBlock] at e,by simp [Value.ownBlock];omega,by simp [Value.ownBlock],hl,by simp,hb.alloc hl _⟩
theorem CpS.new2 {w0 wr:World} {lo g cap n:Nat} {xs:List Value} (hb:Below lo w0 wr) (hl:lo<=wr.heap.size) (h:wr.ownsRow lo 47 5 (.slice (some ⟨g,0,none⟩) n cap) n xs) :
 CpS w0 (wr.alloc (.cells #[.slice none 0 0,.slice (some ⟨g,0,none⟩) n cap] 33 (0,0))) wr.heap.size lo (.slice none 0 0) (.slice (some ⟨g,0,none⟩) n cap) 0 n [] xs:=by
 have hg:=(h.lt g rfl).2;exact ⟨cN _ _ _ 0,cN _ _ _ 1,fN _ _ _ _ rfl,fN _ _ _ _ rfl,⟨rfl,.inl ⟨rfl,rfl⟩⟩,h.alloc _,fun j e _=>by simp [Value.ownBlock] at e,by simp [Value.ownBlock],by simp [Value.ownBlock];omega,hl,by simp,hb.alloc hl _⟩
theorem Zco (w:World) (lo:Nat) (e:TypeId) (size:Nat) (hl:lo<=w.heap.size):(w.alloc (.cells #[] e (0,0))).ownsRow lo e size (.slice (some ⟨w.heap.size,0,none⟩) 0 0) 0 []:=by
 refine ⟨by simp,.inr ⟨w.heap.size,0,#[],rfl,hl,?_,nl _,Nat.zero_le _,by simp,by simp⟩⟩;show (w.heap.push (.cells #[] e (0,0)))[w.heap.size]?=_;simp
theorem ZiL (g o j:Nat):(⟨g,o,none⟩:Addr).add j=⟨g,o+j,none⟩:=by unfold Addr.add;split <;> simp_all
theorem TxSl.news {w:World} {ad:Option Addr} {l:List ByteArray} (h:TxSl w ad l):l.length=0\/∃ b,ad=some b/\∀ j u,(l.map Value.string)[j]?=some u->w.cell? (b.add j)=some u:=by
 rcases h with rfl | ⟨b,off,rfl,_,h⟩
 ·exact .inl rfl
 ·refine .inr ⟨_,rfl,fun j u hj=>?_⟩;rw [ZiL]
  have hl:j<l.length:=by
   rcases Nat.lt_or_ge j l.length with h9 | h9
   ·exact h9
   ·rw [List.getElem?_eq_none (by rw [List.length_map];exact h9)] at hj;cases hj
  rw [h j hl,<-hj];simp [Tr.xa,hl]
theorem Zar {p:Prop} (h:p):Hid p:=h
def Ar.anyK (fs:List Ar.F) (n:Int):Nat->Bool
 | 0=>false
 | k+1=>Ar.anyK fs n k || decide ((Ar.fa fs k).dict=n)
theorem ZnI {fs:List Ar.F} {n:Int}:∀ {k:Nat},k<=fs.length->(Ar.anyK fs n k=(fs.take k).any fun f=>decide (f.dict=n))
 | 0,_=>by simp [Ar.anyK]
 | k+1,h=>by
  rw [Ar.anyK,ZnI (by omega),Ar.ZN (by omega),List.any_append];simp
theorem Znl {a:Ar.A} {n:Int}:Ar.anyK a.files n a.files.length=Ar.used a n:=by
 rw [ZnI (Nat.le_refl _),List.take_length];rfl
theorem Zmp:∀ (fs:List Ar.F) (i r:Nat),i<fs.length->r<5->(fcs fs)[i*5+r]?=(fc (Ar.fa fs i))[r]?
 | f :: fs,0,r,_,hr=>by
  rw [fcs,List.getElem?_append_left (by simp;omega)];simp only [Nat.zero_mul,Nat.zero_add];rfl
 | f :: fs,i+1,r,h,hr=>by
  have ih:=Zmp fs i r (by simpa using h) hr;rw [fcs,List.getElem?_append_right (by simp;omega)];have e:(i+1)*5+r - ([.string f.name,.int .i64 f.dict,.int .i64 f.size,.int .i64 f.sum,.string f.blk]:List Value).length=i*5+r:=by simp;omega
  rw [e,ih];rfl
theorem FlSl.news {w:World} {ad:Option Addr} {l:List Ar.F} (h:FlSl w ad l):l.length=0\/∃ b,ad=some b/\∀ j u,(fcs l)[j]?=some u->w.cell? (b.add j)=some u:=by
 rcases h with rfl | ⟨b,off,rfl,_,h⟩
 ·exact .inl rfl
 ·refine .inr ⟨_,rfl,fun j u hj=>?_⟩;rw [ZiL]
  have hl:j<l.length*5:=by
   rcases Nat.lt_or_ge j (l.length*5) with h9 | h9
   ·exact h9
   ·rw [List.getElem?_eq_none (by rw [Zag];exact h9)] at hj;cases hj
  have hi:j / 5<l.length:=by omega
  have e:j=j / 5*5+j % 5:=by omega
  have hr:j % 5<5:=by omega
  obtain ⟨c0,c1,c2,c3,c4⟩:=h (j / 5) hi;rw [e,Zmp l (j / 5) (j % 5) hi hr] at hj;rw [e,<-Nat.add_assoc];generalize j / 5=i at *;generalize j % 5=r at *
  match r,hr with
  | 0,_=>rw [Nat.add_zero,c0];exact hj
  | 1,_=>rw [c1];exact hj
  | 2,_=>rw [c2];exact hj
  | 3,_=>rw [c3];exact hj
  | 4,_=>rw [c4];exact hj
theorem ZoJ (a:Ar.A):a.files.map (Ar.cpF a 0)=a.files:=by
 conv=>rhs;rw [<-List.map_id a.files]
 refine List.map_congr_left (fun f _=>?_);unfold Ar.cpF;rw [if_neg (by omega)];rfl
end Go.Proofs.YtbjbjbpgmojcbacGreat
