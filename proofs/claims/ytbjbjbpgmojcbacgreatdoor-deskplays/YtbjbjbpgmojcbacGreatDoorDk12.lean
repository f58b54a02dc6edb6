/- A part of the proof: what it leans on. -/
import Derived.Laws.AppendOwn
import Derived.Test.YtbjbjbpgmojcbacGreatDoorDk11
set_option maxRecDepth 8000
set_option maxHeartbeats 8000000
namespace Go.Proofs.YtbjbjbpgmojcbacGreatDoor
open Ar Bk Cd Dk Im Tk Tr Vy
open Tryz
variable{a:Ar.A}{f:Ar.F}{n:Int}{fs:List Ar.F}{ds:List ByteArray}{xs1 xs2:List Value}{C cap g i k lo m n1 n2:Nat}{v1 v2:Value}{w w' w0 wr:World}
open Go.RowKit
theorem lP{wf:World}{u0 u1:Value}(b:ae w wf)(o1:wf.ownsRow lo 9 1 v1 n1 xs1)(o2:wf.ownsRow lo 73 5 v2 n2 xs2)(hlo:w.heap.size+1<lo)
 (r0:wf.cell? ⟨w.heap.size+1,0,none⟩=some u0) (r1:wf.cell? ⟨w.heap.size+1,1,none⟩=some u1) :
 ae w ((wf.setCell ⟨w.heap.size+1,0,none⟩ v1).setCell ⟨w.heap.size+1,1,none⟩ v2)/\((wf.setCell ⟨w.heap.size+1,0,none⟩ v1).setCell ⟨w.heap.size+1,1,none⟩ v2).ownsRow w.heap.size 9 1 v1 n1 xs1/\((wf.setCell ⟨w.heap.size+1,0,none⟩ v1).setCell ⟨w.heap.size+1,1,none⟩ v2).ownsRow w.heap.size 73 5 v2 n2 xs2 ∧
 ((wf.setCell ⟨w.heap.size+1,0,none⟩ v1).setCell ⟨w.heap.size+1,1,none⟩ v2).cell? ⟨w.heap.size+1,0,none⟩=some v1/\((wf.setCell ⟨w.heap.size+1,0,none⟩ v1).setCell ⟨w.heap.size+1,1,none⟩ v2).cell? ⟨w.heap.size+1,1,none⟩=some v2:=by
 have g1:=Ze wf ⟨w.heap.size+1,0,none⟩ v1;have g2:=Ze (wf.setCell ⟨w.heap.size+1,0,none⟩ v1) ⟨w.heap.size+1,1,none⟩ v2;refine⟨(b.setCell (by show _<=w.heap.size+1;omega) _).setCell (by show _<=w.heap.size+1;omega) _,?_,?_,?_,?_⟩
 ·exact qo ((o1.kept g1 (.inr (ib o1 (by show w.heap.size+1<_;omega)).symm)).kept g2 (.inr (ib o1 (by show w.heap.size+1<_;omega)).symm)) (by omega)
 ·exact qo ((o2.kept g1 (.inr (ib o2 (by show w.heap.size+1<_;omega)).symm)).kept g2 (.inr (ib o2 (by show w.heap.size+1<_;omega)).symm)) (by omega)
 ·rw[eQ _ _ _ _ _ (by decide)];exact oZ r0
 ·exact oZ ((eQ _ _ _ _ _ (by decide)).trans r1)
theorem Pz(ad af:Option Addr)(cd cf:Nat)(a:Ar.A)(name text:ByteArray)(dict:Int)(w:World)(h:bo w ad af a)(hs:ao a)(hn:name.size<=140737488355328)(hc:Vz a=0)(hm:bI name=true)(hd:VY a.aa dict=true)(hl:text.size<=512)(hT:ZI a.files name=true) :
 Calls prog 33 #[av ad cd af cf a,.string name,.string text,.int .i64 dict] w λe w'=>ah w ⟨a.aa,V8 a.files (VN a.aa name text dict)⟩ 0 e w':=by
 have C1:=Za λw' (h9:ae w w')=>Zm ad af cd cf a w' (h.below h9) hs
 have C2:=Za λw'=>oQ name w' hn
 have C3:=Za λw'=>qg ad af cd cf a dict w' hs.nd
 have hsr:=Xk hc;obtain⟨m1,m2,m3⟩:=Zj.1 (VV.1 hc).1;have C4:=Za λw' (h9:ae w w')=>oX ad af cd cf a name w' (h.fs.below h9) (by omega) hsr
 have hdz:=XJ (VV.1 hc).1 dict;have C5:=Za λw' (h9:ae w w')=>zI ad af cd cf a name text dict w' (h.ds.below h9) m1 hdz hd hl hn
 have C6:=Za λw' (h9:ae w w')=>sK ad af cd cf a w' (h.below h9) hs m1 m2
 rw[hc]at C1;rw[hm]at C2;rw[hd]at C3;rw[hT]at C4;have hp:=(ZH hT).1;have hP:V8 a.files (VN a.aa name text dict)=_:=Pv (f:=VN a.aa name text dict) hT
 have HO:Hid (∀lo g cap w',w'.ownsRow lo 73 5 (.slice (some ⟨g,0,none⟩) a.files.length cap) a.files.length (aw a.files)->(fh w' g (VG a.files name*5) (.string name) (.int .i64 dict) (.int .i64 (text.size:Int)) (.int .i64 (Wn text)) (.string (fD (V5 a.aa dict) text).1)).ownsRow lo 73 5 (.slice (some ⟨g,0,none⟩) a.files.length cap) a.files.length (aw (V8 a.files (VN a.aa name text dict)))):=λlo g cap w' h9=>by
  rw[hP];exact zO (VN a.aa name text dict) h9 hp
 have e1:fv (VN a.aa name text dict)=.agg #[.string name,.int .i64 dict,.int .i64 (text.size:Int),.int .i64 (Wn text),.string (fD (V5 a.aa dict) text).1]:=rfl;rw[e1]at C5
 have hpl:(V8 a.files (VN a.aa name text dict)).length=a.files.length:=by
  rw[hP];simp only[List.length_append,List.length_take,List.length_cons,List.length_drop];show min (VG a.files name) _+(a.files.length-(VG a.files name+1)+1)=_;omega
 have hQ:Hid (∀v1 v2 w',w'.ownsRow w.heap.size 9 1 v1 a.aa.length (a.aa.map Value.string)->w'.ownsRow w.heap.size 73 5 v2 a.files.length (aw (V8 a.files (VN a.aa name text dict)))->(∀j,v1.ownBlock=some j->v2.ownBlock≠some j)->ae w w'->ah w ⟨a.aa,V8 a.files (VN a.aa name text dict)⟩ 0 (.returned (.tuple #[.agg #[v1,v2],.int .i64 0])) w'):=λv1 v2 w' h1 h2 h3 h4=>⟨v1,v2,rfl,⟨h1,by show w'.ownsRow _ _ _ _ (V8 a.files (VN a.aa name text dict)).length _;rw[hpl];exact h2,h3⟩,h4⟩
 generalize ah w ⟨a.aa,V8 a.files (VN a.aa name text dict)⟩ 0=Q at*;generalize aw (V8 a.files (VN a.aa name text dict))=FC at*;clear hP hpl e1
 have HA:Hid (∀lo w' v1 v2,aD lo w' v1 v2 a->w'.ownsRow lo 9 1 v1 a.aa.length (a.aa.map Value.string)/\w'.ownsRow lo 73 5 v2 a.files.length (aw a.files)/\(∀j,v1.ownBlock=some j->v2.ownBlock≠some j)):=λlo w' v1 v2 h9=>⟨h9.o1,h9.o2,h9.ne⟩
 generalize aw a.files=FA at*;generalize (fD (V5 a.aa dict) text).1=K at*;generalize Wn text=M at*;generalize VG a.files name=p at*;unfold av at C1 C3 C4 C5 C6 |-
 clear h hs hn hc hm hd hsr m3 hT;generalize a.aa.length=D at*;generalize a.files.length=N at*;have hl':¬(512:Int)<(text.size:Int):=by omega
 have d1:=dF hl';go_enter func33,ntmps33
 go_wp2_with fail
 refine mo (C1.out _ (Fr.start w _ _).b) λw1 G1=>?_
 have F1:=(Fr.start w _ _).next G1;clear G1;obtain⟨b,a0,a1,r0,r1,z0,z1,hz⟩:=id F1;go_wp2_with fail
 refine mo (C2.out _) ?_;rintro w2 rfl;go_wp2_with fail
 refine mo (C3.out _) λw3 G3=>?_
 clear b a0 a1 r0 r1 z0 z1 hz;have F3:=F1.next G3;clear G3;obtain⟨b,a0,a1,r0,r1,z0,z1,hz⟩:=id F3;go_wp2_with fail
 refine mo (C4.out _ F3.b) λw4 G4=>?_
 clear b a0 a1 r0 r1 z0 z1 hz;have F4:=F3.next G4;clear G4;obtain⟨b,a0,a1,r0,r1,z0,z1,hz⟩:=id F4;go_wp2_with fail
 refine mo (C5.out _ F4.b) λw5 G5=>?_
 clear b a0 a1 r0 r1 z0 z1 hz;have F5:=F4.next G5;clear G5;obtain⟨b,a0,a1,r0,r1,z0,z1,hz⟩:=id F5;have zP:w.heap.size<w5.heap.size:=by omega
 go_wp2_with fail
 have F6:=F5.next ((bR _ _).alloc (nl _) (.cells #[.string name,.int .i64 dict,.int .i64 (text.size:Int),.int .i64 M,.string K] 73 (0,0)));refine(C6.out _ F6.b).mono ?_;rintro e w6 ⟨v1,v2,rfl,O6,G6⟩;have F7:=F6.next G6;have zQ:w5.heap.size<w6.heap.size:=by have:=G6.size;simp at this;omega
 have hf:=λj=>(G6.cell (p:=⟨w5.heap.size,j,none⟩) (by simp)).trans (cN _ _ _ j)
 have f0:w6.cell? ⟨w5.heap.size,0,none⟩=some (.string name):=hf 0;have f1:w6.cell? ⟨w5.heap.size,1,none⟩=some (.int .i64 dict):=hf 1;have f2:w6.cell? ⟨w5.heap.size,2,none⟩=some (.int .i64 (text.size:Int)):=hf 2;have f3:w6.cell? ⟨w5.heap.size,3,none⟩=some (.int .i64 M):=hf 3;have f4:w6.cell? ⟨w5.heap.size,4,none⟩=some (.string K):=hf 4;obtain⟨o1,o2,o3⟩:=HA.out _ _ _ _ O6;have hlo:=F6.hz;generalize (w5.alloc (.cells #[.string name,.int .i64 dict,.int .i64 (text.size:Int),.int .i64 M,.string K] 73 (0,0))).heap.size=lo at o1 o2 hlo;clear hf G6 F6 O6 HA b a0 a1 r0 r1 z0 z1 hz C1 C2 C3 C4 C5 C6;obtain⟨b,a0,a1,r0,r1,z0,z1,hz⟩:=id F7;obtain⟨p1,q1,rfl,_⟩:=Zq o1;clear F1 F3 F4 F5;rcases o2.2 with⟨_,h2⟩|⟨g,cap,cur,rfl,h2,h3,h4,h5,h6,h7⟩
 ·omega
 ·have Vj:=Array.getElem?_eq_some_iff.mp h3 |>.1
  have hcs:∀j,j<cur.size->w6.cell? ⟨g,j,none⟩=some (cur.getD j undef):=λj hj=>by
   rw[nV h3,Array.getElem?_eq_getElem hj];simp[Array.getD,hj]
  have g0:=hcs (p*5) (by omega);have g1:=hcs (p*5+1) (by omega);have g2:=hcs (p*5+2) (by omega);have g3:=hcs (p*5+3) (by omega);have g4:=hcs (p*5+4) (by omega);have y:=sS h3;have y0:=y (p*5);have y1:=y (p*5+1);have y2:=y (p*5+2);have y3:=y (p*5+3);have y4:=y (p*5+4);have Vk:(p:Int)<(N:Int):=by omega
  have cm:w.heap.size<w6.heap.size:=by omega
  generalize cur.getD (p*5) undef=u0 at*;generalize cur.getD (p*5+1) undef=u1 at*;generalize cur.getD (p*5+2) undef=u2 at*;generalize cur.getD (p*5+3) undef=u3 at*;generalize cur.getD (p*5+4) undef=u4 at*;have gr:=vA w6 g (p*5) (.string name) (.int .i64 dict) (.int .i64 (text.size:Int)) (.int .i64 M) (.string K);have P1:=HO.out lo g cap w6 o2;have P0:=o1.kept gr (.inr (λe=>o3 g e rfl));have Fv:some (w.heap.size+1)≠some g:=by simp;omega
  obtain⟨Bz,eS,eU,gd,gw⟩:=lP (vu b g (p*5) (.string name) (.int .i64 dict) (.int .i64 (text.size:Int)) (.int .i64 M) (.string K) (by omega)) P0 P1 hlo (Zg gr r0 Fv) (Zg gr r1 Fv);clear h3 h6 h7 hcs y HO gr P0 P1;go_wp2_with fail
  unfold fh at Bz eS eU gd gw;have hzz:=cL _ _ gd;generalize (((((((w6.setCell ⟨g,p*5,none⟩ (.string name)).setCell ⟨g,p*5+1,none⟩ (.int .i64 dict)).setCell ⟨g,p*5+2,none⟩ (.int .i64 (text.size:Int))).setCell ⟨g,p*5+3,none⟩ (.int .i64 M)).setCell ⟨g,p*5+4,none⟩ (.string K)).setCell ⟨w.heap.size+1,0,none⟩ (.slice p1 D q1)).setCell ⟨w.heap.size+1,1,none⟩ (.slice (some ⟨g,0,none⟩) N cap))=wz at*;have k0:=(gW wz (.cells #[.slice p1 D q1,.slice (some ⟨g,0,none⟩) N cap] 35 (0,0)) ⟨w.heap.size+1,0,none⟩ hzz).trans gd;have k1:=(gW wz (.cells #[.slice p1 D q1,.slice (some ⟨g,0,none⟩) N cap] 35 (0,0)) ⟨w.heap.size+1,1,none⟩ hzz).trans gw;have q1':=eS.alloc (.cells #[.slice p1 D q1,.slice (some ⟨g,0,none⟩) N cap] 35 (0,0));have q2':=eU.alloc (.cells #[.slice p1 D q1,.slice (some ⟨g,0,none⟩) N cap] 35 (0,0));have B':=Bz.alloc (by have:w.heap.size+1<wz.heap.size:=hzz;omega) (.cells #[.slice p1 D q1,.slice (some ⟨g,0,none⟩) N cap] 35 (0,0));generalize (wz.alloc (.cells #[.slice p1 D q1,.slice (some ⟨g,0,none⟩) N cap] 35 (0,0)))=wy at*;exact bodyPost_ret (v:=.tuple #[.agg #[.slice p1 D q1,.slice (some ⟨g,0,none⟩) N cap],.int .i64 0]) (by simp[results,results33,go_sem,k0,k1]) rfl (hQ.out _ _ _ q1' q2' o3 B')
theorem PC(ad af:Option Addr)(cd cf:Nat)(a:Ar.A)(name text:ByteArray)(dict:Int)(w:World)(h:bo w ad af a)(hs:ao a)(hn:name.size<=140737488355328)(hc:Vz a=0)(hm:bI name=true)(hd:VY a.aa dict=true)(hl:text.size<=512)(hT:ZI a.files name=false)(h12:a.files.length<12) :
 Calls prog 33 #[av ad cd af cf a,.string name,.string text,.int .i64 dict] w λe w'=>ah w ⟨a.aa,V8 a.files (VN a.aa name text dict)⟩ 0 e w':=by
 have C1:=Za λw' (h9:ae w w')=>Zm ad af cd cf a w' (h.below h9) hs
 have C2:=Za λw'=>oQ name w' hn
 have C3:=Za λw'=>qg ad af cd cf a dict w' hs.nd
 have hsr:=Xk hc;obtain⟨m1,m2,m3⟩:=Zj.1 (VV.1 hc).1;have C4:=Za λw' (h9:ae w w')=>oX ad af cd cf a name w' (h.fs.below h9) (by omega) hsr
 have hdz:=XJ (VV.1 hc).1 dict;have C5:=Za λw' (h9:ae w w')=>zI ad af cd cf a name text dict w' (h.ds.below h9) m1 hdz hd hl hn
 have C6:=Za λw' (h9:ae w w')=>sK ad af cd cf a w' (h.below h9) hs m1 m2
 rw[hc]at C1;rw[hm]at C2;rw[hd]at C3;rw[hT]at C4;have hp:=Yg a.files name;have hP:V8 a.files (VN a.aa name text dict)=a.files.take (VG a.files name)++VN a.aa name text dict :: a.files.drop (VG a.files name):=Pw (f:=VN a.aa name text dict) hT
 have hpl:(V8 a.files (VN a.aa name text dict)).length=a.files.length+1:=by
  rw[hP];simp only[List.length_append,List.length_take,List.length_cons,List.length_drop];omega
 have CI:Hid (∀lo w' v2 vb,w'.ownsRow lo 73 5 v2 a.files.length (aw a.files)->w'.heap[vb]?=some (.cells #[.string name,.int .i64 dict,.int .i64 (text.size:Int),.int .i64 (Wn text),.string (fD (V5 a.aa dict) text).1] 73 (0,0))->v2.ownBlock≠some vb->lo<=w'.heap.size →
  Calls prog 67 #[v2,.int .i64 (VG a.files name:Nat),.slice (some ⟨vb,0,none⟩) 1 1] w' λe w2=>∃g cap,e=.returned (.slice (some ⟨g,0,none⟩) (a.files.length+1) cap)/\w2.ownsRow lo 73 5 (.slice (some ⟨g,0,none⟩) (a.files.length+1) cap) (a.files.length+1) (aw (V8 a.files (VN a.aa name text dict)))/\w'.grownBy w2 v2.ownBlock/\(v2.ownBlock=some g\/w'.heap.size<=g)):=λlo w' v2 vb h1 h2 h3 h4=>by
  have:=Pp lo a.files (VN a.aa name text dict) v2 (VG a.files name) vb 73 w' h1 m2 hp h2 h3 h4;unfold lO at this;rw[<-hP,hpl]at this;exact this
 have e1:fv (VN a.aa name text dict)=.agg #[.string name,.int .i64 dict,.int .i64 (text.size:Int),.int .i64 (Wn text),.string (fD (V5 a.aa dict) text).1]:=rfl;rw[e1]at C5
 have hQ:Hid (∀v1 v2 w',w'.ownsRow w.heap.size 9 1 v1 a.aa.length (a.aa.map Value.string)->w'.ownsRow w.heap.size 73 5 v2 (a.files.length+1) (aw (V8 a.files (VN a.aa name text dict)))->(∀j,v1.ownBlock=some j->v2.ownBlock≠some j)->ae w w'->ah w ⟨a.aa,V8 a.files (VN a.aa name text dict)⟩ 0 (.returned (.tuple #[.agg #[v1,v2],.int .i64 0])) w'):=λv1 v2 w' h1 h2 h3 h4=>⟨v1,v2,rfl,⟨h1,by show w'.ownsRow _ _ _ _ (V8 a.files (VN a.aa name text dict)).length _;rw[hpl];exact h2,h3⟩,h4⟩
 generalize ah w ⟨a.aa,V8 a.files (VN a.aa name text dict)⟩ 0=Q at*;generalize aw (V8 a.files (VN a.aa name text dict))=FC at*;clear hP hpl e1
 have HA:Hid (∀lo w' v1 v2,aD lo w' v1 v2 a->w'.ownsRow lo 9 1 v1 a.aa.length (a.aa.map Value.string)/\w'.ownsRow lo 73 5 v2 a.files.length (aw a.files)/\(∀j,v1.ownBlock=some j->v2.ownBlock≠some j)):=λlo w' v1 v2 h9=>⟨h9.o1,h9.o2,h9.ne⟩
 generalize aw a.files=FA at*;generalize (fD (V5 a.aa dict) text).1=K at*;generalize Wn text=M at*;generalize VG a.files name=p at*;unfold av at C1 C3 C4 C5 C6 |-
 clear h hs hn hc hm hd hsr m3 hT;generalize a.aa.length=D at*;generalize a.files.length=N at*;have hl':¬(512:Int)<(text.size:Int):=by omega
 have d1:=dF hl';have d2:decide ((N:Int)=12)=false:=dF (by omega);have d3:((N:Int)==12)=false:=by simp;omega
 have d4:¬(N:Int)=12:=by omega
 go_enter func33,ntmps33
 go_wp2_with fail
 refine mo (C1.out _ (Fr.start w _ _).b) λw1 G1=>?_
 have F1:=(Fr.start w _ _).next G1;clear G1;obtain⟨b,a0,a1,r0,r1,z0,z1,hz⟩:=id F1;go_wp2_with fail
 refine mo (C2.out _) ?_;rintro w2 rfl;go_wp2_with fail
 refine mo (C3.out _) λw3 G3=>?_
 clear b a0 a1 r0 r1 z0 z1 hz;have F3:=F1.next G3;clear G3;obtain⟨b,a0,a1,r0,r1,z0,z1,hz⟩:=id F3;go_wp2_with fail
 refine mo (C4.out _ F3.b) λw4 G4=>?_
 clear b a0 a1 r0 r1 z0 z1 hz;have F4:=F3.next G4;clear G4;obtain⟨b,a0,a1,r0,r1,z0,z1,hz⟩:=id F4;go_wp2_with fail
 refine mo (C5.out _ F4.b) λw5 G5=>?_
 clear b a0 a1 r0 r1 z0 z1 hz;have F5:=F4.next G5;clear G5;obtain⟨b,a0,a1,r0,r1,z0,z1,hz⟩:=id F5;have zP:w.heap.size<w5.heap.size:=by omega
 go_wp2_with fail
 have F6:=F5.next ((bR _ _).alloc (nl _) (.cells #[.string name,.int .i64 dict,.int .i64 (text.size:Int),.int .i64 M,.string K] 73 (0,0)));refine(C6.out _ F6.b).mono ?_;rintro e w6 ⟨v1,v2,rfl,O6,G6⟩;have F7:=F6.next G6;have zQ:w5.heap.size<w6.heap.size:=by have:=G6.size;simp at this;omega
 have hf:=λj=>(G6.cell (p:=⟨w5.heap.size,j,none⟩) (by simp)).trans (cN _ _ _ j)
 have f0:w6.cell? ⟨w5.heap.size,0,none⟩=some (.string name):=hf 0;have f1:w6.cell? ⟨w5.heap.size,1,none⟩=some (.int .i64 dict):=hf 1;have f2:w6.cell? ⟨w5.heap.size,2,none⟩=some (.int .i64 (text.size:Int)):=hf 2;have f3:w6.cell? ⟨w5.heap.size,3,none⟩=some (.int .i64 M):=hf 3;have f4:w6.cell? ⟨w5.heap.size,4,none⟩=some (.string K):=hf 4;obtain⟨o1,o2,o3⟩:=HA.out _ _ _ _ O6;have hlo:=F6.hz;have hl0:_<=w6.heap.size:=G6.size;generalize (w5.alloc (.cells #[.string name,.int .i64 dict,.int .i64 (text.size:Int),.int .i64 M,.string K] 73 (0,0))).heap.size=lo at o1 o2 hlo hl0;clear hf G6 F6 O6 HA b a0 a1 r0 r1 z0 z1 hz C1 C2 C3 C4 C5 C6;obtain⟨b,a0,a1,r0,r1,z0,z1,hz⟩:=id F7;obtain⟨p1,q1,rfl,_⟩:=Zq o1;clear F1 F3 F4 F5;obtain⟨p2,q2,rfl,hq2⟩:=Zq o2;have cm:w.heap.size<w6.heap.size:=by omega
 go_wp2_with fail
 have hsz1:(w6.alloc (.cells #[.slice p1 D q1,.slice p2 N q2] 35 (0,0))).heap.size=w6.heap.size+1:=by simp
 have hown:=λx o=>(o2.alloc x).alloc o
 obtain⟨K1,K2⟩:=gK w6 #[.slice p1 D q1,.slice p2 N q2] #[.string name,.int .i64 dict,.int .i64 (text.size:Int),.int .i64 M,.string K] 35 73
 have hvb:((w6.alloc (.cells #[.slice p1 D q1,.slice p2 N q2] 35 (0,0))).alloc (.cells #[.string name,.int .i64 dict,.int .i64 (text.size:Int),.int .i64 M,.string K] 73 (0,0))).heap[w6.heap.size+1]?=some (.cells #[.string name,.int .i64 dict,.int .i64 (text.size:Int),.int .i64 M,.string K] 73 (0,0)):=by
  rw[<-hsz1];show(Array.push _ _)[_]?=_;rw[Array.getElem?_push_size]
 have hlt2:=λj (hj:(Value.slice p2 N q2).ownBlock=some j)=>o2.lt j hj
 have hlt1:=λj (hj:(Value.slice p1 D q1).ownBlock=some j)=>o1.lt j hj
 have sX:∀o,((w6.alloc (.cells #[.slice p1 D q1,.slice p2 N q2] 35 (0,0))).alloc (.cells #[.string name,.int .i64 dict,.int .i64 (text.size:Int),.int .i64 M,.string K] 73 (0,0))).frozen? ⟨w6.heap.size,o,none⟩=false:=λo=>by
  rw[World.frozen?_alloc_past _ _ _ (by rw[hsz1];omega)];exact fN _ _ _ _ rfl
 have F8:=(F7.next ((bR _ _).alloc (nl _) (.cells #[.slice p1 D q1,.slice p2 N q2] 35 (0,0)))).next ((bR _ _).alloc (nl _) (.cells #[.string name,.int .i64 dict,.int .i64 (text.size:Int),.int .i64 M,.string K] 73 (0,0)));have o7:=(o1.alloc (.cells #[.slice p1 D q1,.slice p2 N q2] 35 (0,0))).alloc (.cells #[.string name,.int .i64 dict,.int .i64 (text.size:Int),.int .i64 M,.string K] 73 (0,0));refine(CI.out lo _ _ _ (hown _ _) hvb (λe=>by have:=(hlt2 _ e).2;omega) (by simp;omega)).mono ?_;have hsz2:((w6.alloc (.cells #[.slice p1 D q1,.slice p2 N q2] 35 (0,0))).alloc (.cells #[.string name,.int .i64 dict,.int .i64 (text.size:Int),.int .i64 M,.string K] 73 (0,0))).heap.size=w6.heap.size+2:=by simp
 generalize ((w6.alloc (.cells #[.slice p1 D q1,.slice p2 N q2] 35 (0,0))).alloc (.cells #[.string name,.int .i64 dict,.int .i64 (text.size:Int),.int .i64 M,.string K] 73 (0,0)))=wi at*;rintro e w8 ⟨g,cap,rfl,O8,fJ,hat⟩;have nC:some w6.heap.size≠(Value.slice p2 N q2).ownBlock:=λe=>by have:=(hlt2 _ e.symm).2;omega
 have nR:some (w.heap.size+1)≠(Value.slice p2 N q2).ownBlock:=λe=>by have:=(hlt2 _ e.symm).1;omega
 have Vl:some w.heap.size≠(Value.slice p2 N q2).ownBlock:=λe=>by have:=(hlt2 _ e.symm).1;omega
 have s0:w8.cell? ⟨w6.heap.size,0,none⟩=some (.slice p1 D q1):=Zg fJ (K1 0) nC;have s1:w8.cell? ⟨w6.heap.size,1,none⟩=some (.slice p2 N q2):=Zg fJ (K1 1) nC;have s3:=Zv fJ (by omega) (sX 1) nC;have t0:=Zg fJ F8.r0 nR;have t1:=Zg fJ F8.r1 nR;have t2:=Zv fJ (by omega) F8.z0 nR;have t3:=Zv fJ (by omega) F8.z1 nR;have b8:=F8.b.grown fJ (by omega) (λj hj=>by have:=(hlt2 j hj).1;omega);have zR:w6.heap.size+2<=w8.heap.size:=by have:=fJ.size;omega
 have sY:=o7.kept fJ (by
  cases hv:(Value.slice p1 D q1).ownBlock with
  |none=>exact .inl rfl
  |some j=>exact .inr (λe=>o3 j hv e.symm))
 have gN:g≠w6.heap.size:=by
  rcases hat with hat|hat
  ·have:=(hlt2 g hat).2;omega
  ·omega
 have sg:=Ze w8 ⟨w6.heap.size,1,none⟩ (.slice (some ⟨g,0,none⟩) (N+1) cap);have O9:=O8.kept sg (.inr (by simp[Value.ownBlock];exact gN));have o9:=sY.kept sg (.inr (λe=>by have:=(hlt1 _ e).2;simp at this))
 have iU:∀j,(Value.slice p1 D q1).ownBlock=some j->(Value.slice (some ⟨g,0,none⟩) (N+1) cap).ownBlock≠some j:=λj hj e=>by
  simp[Value.ownBlock]at e;subst e;rcases hat with hat|hat
  ·exact o3 g hj hat
  ·have:=(hlt1 g hj).2;omega
 have b9:=b8.setCell (p:=⟨w6.heap.size,1,none⟩) (by show _<=w6.heap.size;omega) (.slice (some ⟨g,0,none⟩) (N+1) cap);have sZ:some (w.heap.size+1)≠some w6.heap.size:=by simp;omega
 obtain⟨Bz,eS,eU,gd,gw⟩:=lP b9 o9 O9 hlo (Zg sg t0 sZ) (Zg sg t1 sZ);have nX:w6.heap.size≠w.heap.size+1:=by omega
 have hC2:w6.heap.size<w8.heap.size:=by omega
 have PD:w.heap.size+1<w8.heap.size:=by omega
 clear F8 F7 o7 hown CI K1 K2 hvb sg O9 o9 b9 O8 fJ sY b8 sX hat;go_wp2_with fail
 generalize ((w8.setCell _ _).setCell _ _).setCell _ _=wz at*;exact bodyPost_ret (v:=.tuple #[.agg #[.slice p1 D q1,.slice (some ⟨g,0,none⟩) (N+1) cap],.int .i64 0]) (by simp[results,results33,go_sem,gd,gw]) rfl (hQ.out _ _ _ eS eU iU Bz)
theorem s6{name text:ByteArray}{dict E:Int}(h:aO a name text dict=E)(h0:E≠0):bW a name text dict=VC:=by
 unfold bW;rw[h,ab h0]
theorem PF(ad af:Option Addr)(cd cf:Nat)(a:Ar.A)(name text:ByteArray)(dict:Int)(w:World)(h:bo w ad af a)(hs:ao a)(hn:name.size<=140737488355328)(ht:text.size<=140737488355328) :
 Calls prog 33 #[av ad cd af cf a,.string name,.string text,.int .i64 dict] w λe w'=>ah w (bW a name text dict) (aO a name text dict) e w':=by
 by_cases hc:Vz a=0
 ·cases hm:bI name with
  |false =>
   have e:aO a name text dict=4:=by unfold aO;rw[ab (λh9=>h9 hc),ax hm]
   rw[s6 e (by decide),e];exact Pr ad af cd cf a name text dict w h hs hn hc hm
  |true =>
   cases hd:VY a.aa dict with
   |false =>
    have e:aO a name text dict=3:=by unfold aO;rw[ab (λh9=>h9 hc),ab (by rw[hm];decide),ax hd]
    rw[s6 e (by decide),e];exact Ps ad af cd cf a name text dict w h hs hn hc hm hd
   |true =>
    by_cases hl:512<text.size
    ·have e:aO a name text dict=2:=by unfold aO;rw[ab (λh9=>h9 hc),ab (by rw[hm];decide),ab (by rw[hd];decide),ax (.inl hl)]
     rw[s6 e (by decide),e];exact Pt ad af cd cf a name text dict w h hs hn ht hc hm hd hl
    ·cases hT:ZI a.files name with
     |true =>
      have e:aO a name text dict=0:=by
       unfold aO;rw[ab (λh9=>h9 hc),ab (by rw[hm];decide),ab (by rw[hd];decide),ab];rintro(h1|h1)
       ·exact hl h1
       ·rw[hT]at h1;cases h1.1
      have e2:bW a name text dict=⟨a.aa,V8 a.files (VN a.aa name text dict)⟩:=by unfold bW;rw[ax e]
      rw[e,e2];exact Pz ad af cd cf a name text dict w h hs hn hc hm hd (by omega) hT
     |false =>
      by_cases h12:a.files.length=12
      ·have e:aO a name text dict=2:=by unfold aO;rw[ab (λh9=>h9 hc),ab (by rw[hm];decide),ab (by rw[hd];decide),ax (.inr ⟨hT,h12⟩)]
       rw[s6 e (by decide),e];exact Pu ad af cd cf a name text dict w h hs hn hc hm hd (by omega) hT h12
      ·have e:aO a name text dict=0:=by
        unfold aO;rw[ab (λh9=>h9 hc),ab (by rw[hm];decide),ab (by rw[hd];decide),ab];rintro(h1|h1)
        ·exact hl h1
        ·exact h12 h1.2
       have e2:bW a name text dict=⟨a.aa,V8 a.files (VN a.aa name text dict)⟩:=by unfold bW;rw[ax e]
       have m2:=(Zj.1 (VV.1 hc).1).2.1;rw[e,e2];exact PC ad af cd cf a name text dict w h hs hn hc hm hd (by omega) hT (by omega)
 ·have e:aO a name text dict=Vz a:=by unfold aO;rw[ax hc]
  rw[s6 e hc,e];exact Pq ad af cd cf a name text dict w h hs hc
theorem PG{P:Program}{ops:Array Oper}{o:Oper}{a:Act}{K:Act->World->Prop}{Q:Exit->Act->World->Prop}{E:Prop}(hg:o.guard=none)(s x:Operand)(t tn:TypeId)
 (ho:o.op=.call { callee:=.builtin .append,args:=#[s,x],argTypes:=#[t,tn] }) (vs vx:Value) (hs:a.eval s=vs) (hx:a.eval x=vx)
 {v':Value} {w':World} (hr:(Builtin.append_ #[t,tn] o.type #[vs,vx]).run P w=.ok v' w') (h:K (a.put o.dst v') w'):if Region.wanted o (yielded ops a.tmps)=true then Oper.wp P o a w K Q else E:=by
 rw[ax (by simp[Region.wanted,hg])];exact Lib.wp_append_run w s x t tn ho vs vx hs hx v' w' hr h
theorem Fw{P:Program}(w:World){ops:Array Oper}{rest:List Oper}{o:Oper}{a:Act}{Q:Exit->Act->World->Prop}(hgd:o.guard=none)(s:Operand)(t:TypeId)
 (ho:o.op=.call { callee:=.builtin .clear,args:=#[s],argTypes:=#[t] }) (vs:Value) (hs:a.eval s=vs)
 {v':Value} {w':World} (hr:(Builtin.clear_ #[t] o.type #[vs]).run P w=.ok v' w') (h:wpList P ops Q rest (a.put o.dst v') w'):wpList P ops Q (o :: rest) a w :=
 wpList_plain hgd λK hK=>by
  unfold Oper.wp execOp;simp only[ho,resolve,invoke,builtin,Sem.run_bind,Sem.run_pure,Result.andThen_ok,List.map_toArray,List.map_cons,List.map_nil,hs,hr];exact hK _ _ h
def lQ:List Value:=[.string ⟨#[]⟩,.int .i64 0,.int .i64 0,.int .i64 0,.string ⟨#[]⟩]
theorem PH(w:World)(ty:TypeId)(g o c:Nat)(cur:Array Value)(t:TypeId)(hg:w.heap[g]?=some (.cells cur t (0,0)))(hfit:o+5<=cur.size) :
 (Builtin.clear_ #[33] ty #[.slice (some ⟨g,o,none⟩) 1 c]).run prog w=.ok (.tuple #[]) (w.setRow g (cur.toList.take o++lQ++cur.toList.drop (o+5)).toArray):=by
 obtain⟨j0,gi,ej,dX,ek⟩:=info_parts (P:=prog) (e:=73) (z:=.agg #[.string ⟨#[]⟩,.int .i64 0,.int .i64 0,.int .i64 0,.string ⟨#[]⟩]) (size:=5) (bytes:=56) (by kernel_rfl);have hz:(Builtin.zeroCells (Value.agg #[.string ⟨#[]⟩,.int .i64 0,.int .i64 0,.int .i64 0,.string ⟨#[]⟩]).cells 1).toList=lQ:=by kernel_rfl
 have hst:=run_storeCells_at prog g o t lQ 0 cur w hg (by simpa[lQ]using hfit) (cZ _ _ _ _ _);have hl:lQ.length=5:=rfl;simp only[Nat.add_zero,hl]at hst;simp[Builtin.clear_,run_underlying underlying33,zeroValue,typeInfo,gi,ej,hz,hst]
def vB(lo:Nat)(fs:List Ar.F)(v2:Value)(w:World)(e:Ending)(w':World):Prop:=∃g cap,e=.returned (.slice (some ⟨g,0,none⟩) fs.length cap)/\w'.ownsRow lo 73 5 (.slice (some ⟨g,0,none⟩) fs.length cap) fs.length (aw fs)/\w.grownBy w' v2.ownBlock/\v2.ownBlock=some g
theorem PI{l cs:List Value}(h1:l.take (m+5)=cs)(h2:m+5<=l.length)(h3:i<=m) :
 let l1:=l.take i++cs.drop (i+5)++l.drop (i+(cs.drop (i+5)).length)
 (l1.take m++lQ++l1.drop (m+5)).length=l.length/\(l1.take m++lQ++l1.drop (m+5)).take m=cs.take i++cs.drop (i+5):=by
 intro l1;have hc:cs.length=m+5:=by rw[<-h1,List.length_take];omega
 have hd:(cs.drop (i+5)).length=m-i:=by rw[List.length_drop,hc];omega
 have e1:l1.length=l.length:=by
  show(l.take i++cs.drop (i+5)++l.drop (i+(cs.drop (i+5)).length)).length=_;simp only[List.length_append,List.length_take,List.length_drop];omega
 have hf:lQ.length=5:=rfl;constructor
 ·simp only[List.length_append,List.length_take,List.length_drop,hf];omega
 ·rw[List.append_assoc,List.take_append_of_le_length (by rw[List.length_take];omega),List.take_take,Nat.min_self];show(l.take i++cs.drop (i+5)++l.drop (i+(cs.drop (i+5)).length)).take m=_;rw[List.take_append_of_le_length (by simp only[List.length_append,List.length_take];omega),List.take_of_length_le (by simp only[List.length_append,List.length_take];omega)]
  congr 1
  rw[<-h1,List.take_take]
  congr 1
  omega
theorem PJ(lo:Nat)(fs:List Ar.F)(v2:Value)(i:Nat)(w:World)(hown:w.ownsRow lo 73 5 v2 fs.length (aw fs))(hn:fs.length<=12)(hi:i<fs.length) :
 Calls prog 68 #[v2,.int .i64 (i:Nat),.int .i64 ((i:Int)+1)] w λe w'=>vB lo (fs.take i++fs.drop (i+1)) v2 w e w':=by
 obtain⟨j0,gi,ej,dX,ek⟩:=info_parts (P:=prog) (e:=73) (z:=.agg #[.string ⟨#[]⟩,.int .i64 0,.int .i64 0,.int .i64 0,.string ⟨#[]⟩]) (size:=5) (bytes:=56) (by kernel_rfl);rcases hown.2 with⟨_,h2⟩|⟨g,cap,cur,rfl,h2,hg,h4,h5,h6,htk⟩
 ·omega
 have hcl:=iF fs
 obtain⟨m,hm⟩:∃m,fs.length=m+1:=⟨fs.length-1,by omega⟩
 have hdl:((aw fs).drop (i*5+5)).length=(m-i)*5:=by rw[List.length_drop,hcl];omega
 obtain⟨aJ,bw⟩:∃aJ:Array Value,aJ=(cur.toList.take (i*5)++(aw fs).drop (i*5+5)++cur.toList.drop (i*5+((aw fs).drop (i*5+5)).length)).toArray:=⟨_,rfl⟩
 obtain⟨bY,dH⟩:∃bY:Array Value,bY=(aJ.toList.take (m*5)++lQ++aJ.toList.drop (m*5+5)).toArray:=⟨_,rfl⟩
 have hl1:aJ.toList=cur.toList.take (i*5)++(aw fs).drop (i*5+5)++cur.toList.drop (i*5+((aw fs).drop (i*5+5)).length):=by rw[bw]
 have hl2:bY.toList=aJ.toList.take (m*5)++lQ++aJ.toList.drop (m*5+5):=by rw[dH]
 have hcL:cur.toList.length=cap*5:=by simpa using h6
 have gv:=PI (l:=cur.toList) (cs:=aw fs) (m:=m*5) (i:=i*5) (by rw[<-htk,hm];congr 1;omega) (by rw[hcL];omega) (by omega);simp only at gv;rw[<-hl1,<-hl2]at gv
 have hs1:aJ.size=cap*5:=by
  rw[<-Array.length_toList,hl1];simp only[List.length_append,List.length_take,List.length_drop,Array.length_toList,hcl,h6];omega
 have hap:∀ty sc o,(o=i*5+5\/i=m)->(Builtin.append_ #[33,33] ty #[.slice (some ⟨g,0,none⟩) i cap,.slice (some ⟨g,o,none⟩) (m-i) sc]).run prog w.drew=.ok (.slice (some ⟨g,0,none⟩) m cap) (w.drew.setRow g aJ):=λty sc o ho=>by
  have:=run_append_room w.drew 33 ty 73 j0 eX gi g i cap cur hg ⟨g,o,none⟩ (m-i) sc ((aw fs).drop (i*5+5)) (by rw[dX,hdl])
   (λj v hj=>by
    rcases ho with rfl|rfl
    ·rw[Go.WideShapes.add_plain];show w.cell? ⟨g,i*5+5+j,none⟩=some v;rw[nV hg,<-Array.getElem?_toList];rw[List.getElem?_drop,<-htk,List.getElem?_take]at hj;split at hj
     ·exact hj
     ·cases hj
    ·rw[List.getElem?_eq_none (by rw[hdl];omega)]at hj;cases hj)
   (λv hv=>sQ fs v (List.mem_of_mem_drop hv)) (by omega) (by rw[dX,hdl];omega)
  rw[dX,<-bw,show i+(m-i)=m by omega]at this;exact this
 have hg1:=setRow_heap w.drew g cur aJ _ _ hg
 have hcr:∀ty c,(Builtin.clear_ #[33] ty #[.slice (some ⟨g,m*5,none⟩) 1 c]).run prog (w.drew.setRow g aJ)=.ok (.tuple #[]) ((w.drew.setRow g aJ).setRow g bY):=λty c=>by
  rw[PH _ ty g (m*5) c aJ _ hg1 (by omega),<-dH]
 have hfin:vB lo (fs.take i++fs.drop (i+1)) (.slice (some ⟨g,0,none⟩) fs.length cap) w (.returned (.slice (some ⟨g,0,none⟩) m cap)) ((w.drew.setRow g aJ).setRow g bY):=by
  have hlen:(fs.take i++fs.drop (i+1)).length=m:=by rw[List.length_append,List.length_take,List.length_drop];omega
  refine⟨g,cap,by rw[hlen],?_,?_,rfl⟩
  ·rw[hlen];refine⟨by rw[iF,hlen],.inr ⟨g,cap,bY,rfl,h2,setRow_heap _ g aJ bY _ _ hg1,by omega,h5,?_,?_⟩⟩
   ·rw[<-h6,<-Array.length_toList,gv.1,Array.length_toList]
   ·rw[gv.2,ZE,vw,vy,show(i+1)*5=i*5+5 by omega]
  ·have a1:=qp w.drew g aJ;have a2:=qp (w.drew.setRow g aJ) g bY
   have a0:w.grownBy w.drew (some g):=⟨rfl,rfl,rfl,nl _,λ_ _ _=>rfl⟩
   exact(a0.trans a1).trans a2
 have hW:i=m->w.drew.setRow g aJ=w.drew:=λe=>by
  have h0:(aw fs).drop (i*5+5)=[]:=List.drop_of_length_le (by rw[hcl];omega)
  have h1:aJ=cur:=by
   rw[bw,h0];simp
  rw[h1];exact setRow_self w.drew g cur _ _ hg
 rw[hm]at hfin |-
 generalize (vB lo (fs.take i++fs.drop (i+1)) (.slice (some ⟨g,0,none⟩) (m+1) cap) w)=Q at*;rw[hm]at hn hi h4;clear hl1 hl2 bw dH gv htk hcl hs1 hg hg1 hown h6 hcL hdl hm;have hz2:¬((i:Int)=(i:Int)+1):=by omega
 have hb3:(i:Int)<=(m:Int):=by omega
 have hb4:(i:Int)+1<=(m:Int)+1:=by omega
 have hb5:(0:Int)<=(i:Int)+1:=by omega
 have htn:((i:Int)+1).toNat=i+1:=by omega
 have hcm:(cap:Int)<=9223372036854775807:=by unfold maxLen at h5;omega
 have hmc:(m:Int)+1<=(cap:Int):=by omega
 have jQ:(m:Int)<=12:=by omega
 have hcm0:¬cap=m:=by omega
 have hic:i<=cap:=by omega
 have him:i<=m+1:=by omega
 have PK:m+1<=cap:=by omega
 have PL:m<=cap:=by omega
 have PM:i+1<=m+1:=by omega
 by_cases hci:cap=i+1
 ·obtain rfl:i=m:=by omega
  rw[hW rfl]at hcr hfin;rw[hci]at hfin;clear hap hW;have hii:(i:Int)<=(i:Int)+1:=by omega
  go_enter func68,ntmps68
  go_wp2_with fail
  go_region
  go_wp2_with (first
   |(at_builtin;refine Fw _ rfl _ 33 rfl _ rfl (hcr _ _) ?_)
   |fail)
  exact hfin
 ·have zS:=λty sc=>hap ty sc ((i+1)*5) (.inl (by omega))
  clear hap hW;go_enter func68,ntmps68
  go_wp2_with fail
  go_region_law (refine PG rfl _ _ 33 33 rfl (.slice (some ⟨g,0,none⟩) i cap) (.slice (some ⟨g,(i+1)*5,none⟩) (m-i) (cap-(i+1))) (by simp[Act.eval,Act.put]) (by simp[Act.eval,Act.put]) (zS 33 (cap-(i+1))) ?_)
  go_wp2_with (first
   |(at_builtin;refine Fw _ rfl _ 33 rfl _ rfl (hcr _ _) ?_)
   |fail)
  exact hfin
theorem ie(ad af:Option Addr)(cd cf:Nat)(a:Ar.A)(name:ByteArray)(w:World)(h:bo w ad af a)(hs:ao a)(hc:Vz a≠0) :
 Calls prog 34 #[av ad cd af cf a,.string name] w λe w'=>ah w VC (Vz a) e w':=by
 have C1:=Za λw' (h9:ae w w')=>Zm ad af cd cf a w' (h.below h9) hs
 have hQ:Hid (∀w',ae w w'->ah w VC (Vz a) (.returned (.tuple #[.agg #[.slice none 0 0,.slice none 0 0],.int .i64 (Vz a)])) w'):=λw' h9=>ZC h9
 generalize ah w VC (Vz a)=Q at*;unfold av at C1 |-
 generalize Vz a=E at*;generalize a.aa.length=D at*;generalize a.files.length=N at*;have e1:(E != 0)=true:=by simpa using hc
 have e2:(E==0)=false:=by simpa using hc
 clear h hs;go_enter func34,ntmps34
 go_wp2_with fail
 refine mo (C1.out _ (Fr.start w _ _).b) λw1 G1=>?_
 have F1:=(Fr.start w _ _).next G1;clear G1;obtain⟨b,a0,a1,r0,r1,z0,z1,hz⟩:=id F1;go_wp2_with fail
 rw[F1.zero];exact bodyPost_ret (v:=.tuple #[.agg #[.slice none 0 0,.slice none 0 0],.int .i64 E]) (by simp[results,results34,go_sem,F1.r0,F1.r1]) rfl (hQ.out _ F1.b)
theorem PQ(ad af:Option Addr)(cd cf:Nat)(a:Ar.A)(name:ByteArray)(w:World)(h:bo w ad af a)(hs:ao a)(hc:Vz a=0)(hT:ZI a.files name=false) :
 Calls prog 34 #[av ad cd af cf a,.string name] w λe w'=>ah w VC 5 e w':=by
 have C1:=Za λw' (h9:ae w w')=>Zm ad af cd cf a w' (h.below h9) hs
 have hsr:=Xk hc;obtain⟨m1,m2,m3⟩:=Zj.1 (VV.1 hc).1;have C4:=Za λw' (h9:ae w w')=>oX ad af cd cf a name w' (h.fs.below h9) (by omega) hsr
 have hQ:Hid (∀w',ae w w'->ah w VC 5 (.returned (.tuple #[.agg #[.slice none 0 0,.slice none 0 0],.int .i64 5])) w'):=λw' h9=>ZC h9
 generalize ah w VC 5=Q at*;rw[hc]at C1;rw[hT]at C4;have hp:=Yg a.files name;generalize VG a.files name=p at*;unfold av at C1 C4 |-
 clear h hs hc hsr m3 hT;generalize a.aa.length=D at*;generalize a.files.length=N at*;go_enter func34,ntmps34
 go_wp2_with fail
 refine mo (C1.out _ (Fr.start w _ _).b) λw1 G1=>?_
 have F1:=(Fr.start w _ _).next G1;clear G1;obtain⟨b,a0,a1,r0,r1,z0,z1,hz⟩:=id F1;go_wp2_with fail
 refine mo (C4.out _ F1.b) λw4 G4=>?_
 clear b a0 a1 r0 r1 z0 z1 hz;have F4:=F1.next G4;clear G4;obtain⟨b,a0,a1,r0,r1,z0,z1,hz⟩:=id F4;go_wp2_with fail
 rw[F4.zero];exact bodyPost_ret (v:=.tuple #[.agg #[.slice none 0 0,.slice none 0 0],.int .i64 5]) (by simp[results,results34,go_sem,F4.r0,F4.r1]) rfl (hQ.out _ F4.b)
theorem PR(ad af:Option Addr)(cd cf:Nat)(a:Ar.A)(name:ByteArray)(w:World)(h:bo w ad af a)(hs:ao a)(hc:Vz a=0)(hT:ZI a.files name=true) :
 Calls prog 34 #[av ad cd af cf a,.string name] w λe w'=>ah w ⟨a.aa,a.files.take (VG a.files name)++a.files.drop (VG a.files name+1)⟩ 0 e w':=by
 have C1:=Za λw' (h9:ae w w')=>Zm ad af cd cf a w' (h.below h9) hs
 have hsr:=Xk hc;obtain⟨m1,m2,m3⟩:=Zj.1 (VV.1 hc).1;have C4:=Za λw' (h9:ae w w')=>oX ad af cd cf a name w' (h.fs.below h9) (by omega) hsr
 have C6:=Za λw' (h9:ae w w')=>sK ad af cd cf a w' (h.below h9) hs m1 m2
 rw[hc]at C1;rw[hT]at C4;have hp:=(ZH hT).1
 obtain⟨n,hn⟩:∃n,a.files.length=n+1:=⟨a.files.length-1,by omega⟩
 have hpl:(a.files.take (VG a.files name)++a.files.drop (VG a.files name+1)).length=n:=by
  simp only[List.length_append,List.length_take,List.length_drop];omega
 have CI:Hid (∀lo w' v2,w'.ownsRow lo 73 5 v2 (n+1) (aw a.files) →
  Calls prog 68 #[v2,.int .i64 (VG a.files name:Nat),.int .i64 ((VG a.files name:Int)+1)] w' λe w2=>∃g cap,e=.returned (.slice (some ⟨g,0,none⟩) n cap)/\w2.ownsRow lo 73 5 (.slice (some ⟨g,0,none⟩) n cap) n (aw (a.files.take (VG a.files name)++a.files.drop (VG a.files name+1)))/\w'.grownBy w2 v2.ownBlock/\v2.ownBlock=some g):=λlo w' v2 h1=>by
  have:=PJ lo a.files v2 (VG a.files name) w' (by rw[hn];exact h1) m2 hp;unfold vB at this;rw[hpl]at this;exact this
 have hQ:Hid (∀v1 v2 w',w'.ownsRow w.heap.size 9 1 v1 a.aa.length (a.aa.map Value.string)->w'.ownsRow w.heap.size 73 5 v2 n (aw (a.files.take (VG a.files name)++a.files.drop (VG a.files name+1)))->(∀j,v1.ownBlock=some j->v2.ownBlock≠some j)->ae w w'->ah w ⟨a.aa,a.files.take (VG a.files name)++a.files.drop (VG a.files name+1)⟩ 0 (.returned (.tuple #[.agg #[v1,v2],.int .i64 0])) w'):=λv1 v2 w' h1 h2 h3 h4=>⟨v1,v2,rfl,⟨h1,by show w'.ownsRow _ _ _ _ (a.files.take (VG a.files name)++a.files.drop (VG a.files name+1)).length _;rw[hpl];exact h2,h3⟩,h4⟩
 generalize ah w ⟨a.aa,a.files.take (VG a.files name)++a.files.drop (VG a.files name+1)⟩ 0=Q at*;generalize aw (a.files.take (VG a.files name)++a.files.drop (VG a.files name+1))=FC at*
 have HA:Hid (∀lo w' v1 v2,aD lo w' v1 v2 a->w'.ownsRow lo 9 1 v1 a.aa.length (a.aa.map Value.string)/\w'.ownsRow lo 73 5 v2 a.files.length (aw a.files)/\(∀j,v1.ownBlock=some j->v2.ownBlock≠some j)):=λlo w' v1 v2 h9=>⟨h9.o1,h9.o2,h9.ne⟩
 clear hpl;generalize aw a.files=FA at*;generalize VG a.files name=p at*;unfold av at C1 C4 C6 |-
 clear h hs hc hsr m3 hT;rw[hn]at C1 C4 C6 HA hp m2 |-
 clear hn;generalize a.aa.length=D at*;have hpi:(p:Int)<=12:=by omega
 go_enter func34,ntmps34
 go_wp2_with fail
 refine mo (C1.out _ (Fr.start w _ _).b) λw1 G1=>?_
 have F1:=(Fr.start w _ _).next G1;clear G1;obtain⟨b,a0,a1,r0,r1,z0,z1,hz⟩:=id F1;go_wp2_with fail
 refine mo (C4.out _ F1.b) λw4 G4=>?_
 clear b a0 a1 r0 r1 z0 z1 hz;have F4:=F1.next G4;clear G4;obtain⟨b,a0,a1,r0,r1,z0,z1,hz⟩:=id F4;go_wp2_with fail
 refine(C6.out _ F4.b).mono ?_;rintro e w6 ⟨v1,v2,rfl,O6,G6⟩;have F7:=F4.next G6;obtain⟨o1,o2,o3⟩:=HA.out _ _ _ _ O6;have hlo:=F4.hz;have hl0:=G6.size;generalize w4.heap.size=lo at o1 o2 hlo hl0;clear G6 O6 HA b a0 a1 r0 r1 z0 z1 hz C1 C4 C6;obtain⟨b,a0,a1,r0,r1,z0,z1,hz⟩:=id F7;obtain⟨p1,q1,rfl,_⟩:=Zq o1;clear F1 F4;obtain⟨p2,q2,rfl,hq2⟩:=Zq o2;have cm:w.heap.size<w6.heap.size:=by omega
 go_wp2_with fail
 have hown:=o2.alloc (.cells #[.slice p1 D q1,.slice p2 (n+1) q2] 35 (0,0));have K1:=λi=>cN w6 #[.slice p1 D q1,.slice p2 (n+1) q2] 35 i
 have hlt2:=λj (hj:(Value.slice p2 (n+1) q2).ownBlock=some j)=>o2.lt j hj
 have hlt1:=λj (hj:(Value.slice p1 D q1).ownBlock=some j)=>o1.lt j hj
 have sX:∀o,(w6.alloc (.cells #[.slice p1 D q1,.slice p2 (n+1) q2] 35 (0,0))).frozen? ⟨w6.heap.size,o,none⟩=false:=λo=>fN _ _ _ _ rfl
 have F8:=F7.next ((bR _ _).alloc (nl _) (.cells #[.slice p1 D q1,.slice p2 (n+1) q2] 35 (0,0)));have o7:=o1.alloc (.cells #[.slice p1 D q1,.slice p2 (n+1) q2] 35 (0,0));refine(CI.out lo _ _ hown).mono ?_;have hsz2:(w6.alloc (.cells #[.slice p1 D q1,.slice p2 (n+1) q2] 35 (0,0))).heap.size=w6.heap.size+1:=by simp
 generalize (w6.alloc (.cells #[.slice p1 D q1,.slice p2 (n+1) q2] 35 (0,0)))=wi at*;rintro e w8 ⟨g,cap,rfl,O8,fJ,hat⟩;have nC:some w6.heap.size≠(Value.slice p2 (n+1) q2).ownBlock:=λe=>by have:=(hlt2 _ e.symm).2;omega
 have nR:some (w.heap.size+1)≠(Value.slice p2 (n+1) q2).ownBlock:=λe=>by have:=(hlt2 _ e.symm).1;omega
 have s0:w8.cell? ⟨w6.heap.size,0,none⟩=some (.slice p1 D q1):=Zg fJ (K1 0) nC;have s1:w8.cell? ⟨w6.heap.size,1,none⟩=some (.slice p2 (n+1) q2):=Zg fJ (K1 1) nC;have s3:=Zv fJ (by omega) (sX 1) nC;have t0:=Zg fJ F8.r0 nR;have t1:=Zg fJ F8.r1 nR;have t2:=Zv fJ (by omega) F8.z0 nR;have t3:=Zv fJ (by omega) F8.z1 nR;have b8:=F8.b.grown fJ (by omega) (λj hj=>by have:=(hlt2 j hj).1;omega);have zR:w6.heap.size+1<=w8.heap.size:=by have:=fJ.size;omega
 have sY:=o7.kept fJ (by
  cases hv:(Value.slice p1 D q1).ownBlock with
  |none=>exact .inl rfl
  |some j=>exact .inr (λe=>o3 j hv e.symm))
 have gN:g≠w6.heap.size:=by have:=(hlt2 g hat).2;omega
 have sg:=Ze w8 ⟨w6.heap.size,1,none⟩ (.slice (some ⟨g,0,none⟩) n cap);have O9:=O8.kept sg (.inr (by simp[Value.ownBlock];exact gN));have o9:=sY.kept sg (.inr (λe=>by have:=(hlt1 _ e).2;simp at this))
 have iU:∀j,(Value.slice p1 D q1).ownBlock=some j->(Value.slice (some ⟨g,0,none⟩) n cap).ownBlock≠some j:=λj hj e=>by
  simp[Value.ownBlock]at e;subst e;exact o3 g hj hat
 have b9:=b8.setCell (p:=⟨w6.heap.size,1,none⟩) (by show _<=w6.heap.size;omega) (.slice (some ⟨g,0,none⟩) n cap);have sZ:some (w.heap.size+1)≠some w6.heap.size:=by simp;omega
 obtain⟨Bz,eS,eU,gd,gw⟩:=lP b9 o9 O9 hlo (Zg sg t0 sZ) (Zg sg t1 sZ);have nX:w6.heap.size≠w.heap.size+1:=by omega
 have hC2:w6.heap.size<w8.heap.size:=by omega
 have PD:w.heap.size+1<w8.heap.size:=by omega
 clear F8 F7 o7 hown CI K1 sg O9 o9 b9 O8 fJ sY b8 sX hat;go_wp2_with fail
 generalize ((w8.setCell _ _).setCell _ _).setCell _ _=wz at*;exact bodyPost_ret (v:=.tuple #[.agg #[.slice p1 D q1,.slice (some ⟨g,0,none⟩) n cap],.int .i64 0]) (by simp[results,results34,go_sem,gd,gw]) rfl (hQ.out _ _ _ eS eU iU Bz)
theorem PU(ad af:Option Addr)(cd cf:Nat)(a:Ar.A)(name:ByteArray)(w:World)(h:bo w ad af a)(hs:ao a) :
 Calls prog 34 #[av ad cd af cf a,.string name] w λe w'=>ah w (Wf a name) (VE a name) e w':=by
 by_cases hc:Vz a=0
 ·cases hT:ZI a.files name with
  |false =>
   have e:VE a name=5:=by unfold VE;rw[ab (λh9=>h9 hc),ab (by rw[hT];decide)]
   have e2:Wf a name=VC:=by unfold Wf;rw[e,ab (by decide)]
   rw[e2,e];exact PQ ad af cd cf a name w h hs hc hT
  |true =>
   have e:VE a name=0:=by unfold VE;rw[ab (λh9=>h9 hc),ax hT]
   have e2:Wf a name=⟨a.aa,a.files.take (VG a.files name)++a.files.drop (VG a.files name+1)⟩:=by unfold Wf;rw[ax e]
   rw[e,e2];exact PR ad af cd cf a name w h hs hc hT
 ·have e:VE a name=Vz a:=by unfold VE;rw[ax hc]
  have e2:Wf a name=VC:=by unfold Wf;rw[e,ab hc]
  rw[e2,e];exact ie ad af cd cf a name w h hs hc
namespace Ar
theorem vC{ds:List ByteArray}(h:∀i,(VA ds i).size<=140737488355328):∀k,iQ ds k<=k*140737488355328
 |0=>by simp[iQ]
 |k+1=>by rw[iQ];have:=vC h k;have:=h k;omega
theorem Z3{fs:List F}(h:∀i,(Nm fs i).blk.size<=140737488355328):∀k,iR fs k<=k*140737488355328
 |0=>by simp[iR]
 |k+1=>by rw[iR];have:=Z3 h k;have:=h k;omega
end Ar
theorem PV(ad af:Option Addr)(cd cf:Nat)(a:Ar.A)(w:World)(h:bo w ad af a)(hs:ao a)(hc:Vz a≠0) :
 CB 41 #[av ad cd af cf a] w (.tuple #[.int .i64 0,.int .i64 (Vz a)]):=by
 have hb:=λo=>(bR w.heap.size w).alloc (nl _) o
 have c1:=λo=>Zm ad af cd cf a (w.alloc o) (h.below (hb o)) hs
 unfold av at c1 |-
 generalize Vz a=E at*;generalize a.aa.length=D at*;generalize a.files.length=F at*;have e1:(E != 0)=true:=by simpa using hc
 have e2:(E==0)=false:=by simpa using hc
 clear h hs;go_enter func41,ntmps41
 go_wp2_with fail
 refine mo (c1 _) λw1 G=>?_
 clear c1;go_wp2_with fail
 go_ret2
 exact⟨rfl,ag (hb _) G⟩
theorem PW(ad af:Option Addr)(cd cf:Nat)(a:Ar.A)(w:World)(h:bo w ad af a)(hs:ao a)(hc:Vz a=0) :
 CB 41 #[av ad cd af cf a] w (.tuple #[.int .i64 (Ar.sz a:Nat),.int .i64 0]):=by
 have hb:=λo=>(bR w.heap.size w).alloc (nl _) o
 have c1:=λo=>Zm ad af cd cf a (w.alloc o) (h.below (hb o)) hs
 rw[hc]at c1;obtain⟨m1,m2,m3⟩:=Zj.1 (VV.1 hc).1;have HX:=Za λw' (hb:ae w w') k (hk:k<a.aa.length)=>(h.ds.below hb).at hk
 have cy:=Za λw' (h9:ae w w') k (hk:k<a.files.length)=>(h.fs.below h9).at hk
 have HD:Hid (∀k,iQ a.aa (k+1)=iQ a.aa k+(VA a.aa k).size):=λk=>rfl
 have HF:Hid (∀k,iR a.files (k+1)=iR a.files k+(Nm a.files k).blk.size):=λk=>rfl
 have it:=Za λk=>vC hs.ds k
 have zT:=Za λk=>Z3 hs.bk k
 have HZ:Hid (∀k,(VA a.aa k).size<=140737488355328/\(Nm a.files k).blk.size<=140737488355328):=λk=>⟨hs.ds k,hs.bk k⟩
 have h0:Hid (iQ a.aa 0=0/\iR a.files 0=0):=⟨rfl,rfl⟩
 have HS:Hid (Ar.sz a=iQ a.aa a.aa.length+iR a.files a.files.length):=rfl;generalize Ar.sz a=SZ at*;generalize iQ a.aa=sd at*;generalize iR a.files=sf at*;unfold av at c1 |-
 clear h hs hc m3;generalize a.aa.length=D at*;generalize a.files.length=N at*;have hDi:(D:Int)<=4:=by omega
 have hNi:(N:Int)<=12:=by omega
 go_enter func41,ntmps41
 go_wp2_with fail
 refine mo (c1 _) λw1 G=>?_
 clear c1;have a0:=(G.cell (p:=⟨w.heap.size,0,none⟩) (by simp)).trans (cN _ _ _ 0);have a1:=(G.cell (p:=⟨w.heap.size,1,none⟩) (by simp)).trans (cN _ _ _ 1);simp at a0 a1;have B1:=ag (hb _) G;clear G;go_wp2_with fail
 go_loopw [5,18] (λn i wr=>∃k:Nat,k<=D/\n=.int .i64 (sd k:Nat)/\i=.int .i64 k/\wr=w1) (λ_ i _=>D-(intOf i).toNat)
 case atStart=>exact⟨0,by omega,by rw[h0.out.1];rfl,rfl,rfl⟩
 case round =>
  obtain⟨k,hk2,rfl,rfl,rfl⟩:=hrel;by_cases hlt:k<D
  ·have d1:=al (by omega:(k:Int)<(D:Int));have d1':=al (by omega:k<D);have hki:(k:Int)<(D:Int):=by omega
   obtain⟨b,off,rfl,hbl,hcell⟩:=HX.out wr B1 k hlt;have e1:=HD.out k;have e2:=it.out k;have e3:=(HZ.out k).1;generalize VA a.aa k=X at*;generalize hsk:sd k=s0 at*;clear hsk;have hw:IntKind.i64.wrap ((s0:Int)+(X.size:Int))=(s0:Int)+(X.size:Int):=IntWalk.i64_in _ ⟨by omega,by omega⟩;go_wp2_with fail
   go_roundw
   case rel=>exact⟨k+1,by omega,by rw[e1];go_num,by go_num,by trivial⟩
   case measure=>simp[intOf];omega
  ·obtain rfl:k=D:=by omega
   have d1:decide ((k:Int)<(k:Int))=false:=by simp
   have e2:=it.out k;generalize sd k=s0 at*;go_wp2_with fail
   go_loopw [5,30] (λn i w2=>∃m:Nat,m<=N/\n=.int .i64 ((s0+sf m:Nat):Int)/\i=.int .i64 m/\ae w w2) (λ_ i _=>N-(intOf i).toNat)
   case atStart=>exact⟨0,by omega,by rw[h0.out.2];rfl,rfl,B1⟩
   case round =>
    obtain⟨m,hm2,rfl,rfl,B2⟩:=hrel;by_cases hlt:m<N
    ·have d2:=al (by omega:(m:Int)<(N:Int));have eJ:=al (by omega:m<N);have jQ:(m:Int)<(N:Int):=by omega
     obtain⟨b,off,rfl,hbl,hcell⟩:=cy.out _ B2 m hlt;obtain⟨c0,c1,c2,c3,c4⟩:=hcell;have e1:=HF.out m;have e4:=zT.out m;have e3:=(HZ.out m).2;generalize (Nm a.files m).name=f0 at*;generalize (Nm a.files m).dict=f1 at*;generalize (Nm a.files m).size=f2 at*;generalize (Nm a.files m).sum=f3 at*;generalize (Nm a.files m).blk=f4 at*
     obtain⟨t0,ht0⟩:∃t0,t0=s0+sf m:=⟨_,rfl⟩
     rw[<-ht0];have hw:IntKind.i64.wrap ((t0:Int)+(f4.size:Int))=(t0:Int)+(f4.size:Int):=IntWalk.i64_in _ ⟨by omega,by omega⟩;have HT:Hid (s0+sf (m+1)=t0+f4.size):=by show _=_;rw[e1,ht0];omega
     clear ht0 e1;go_wp2_with fail
     go_roundw
     case rel=>exact⟨m+1,by omega,by rw[HT.out];go_num,by go_num,B2.alloc (B2.size) _⟩
     case measure=>simp[intOf];omega
    ·obtain rfl:m=N:=by omega
     have d2:decide ((m:Int)<(m:Int))=false:=by simp
     have hS:=HS.out;rw[<-hS];clear hS HS;go_wp2_with fail
     go_ret2
     exact⟨rfl,B2⟩
theorem PX(ad af:Option Addr)(cd cf:Nat)(a:Ar.A)(w:World)(h:bo w ad af a)(hs:ao a) :
 CB 41 #[av ad cd af cf a] w (.tuple #[.int .i64 (Wg a:Nat),.int .i64 (Vz a)]):=by
 by_cases hc:Vz a=0
 ·have e:Wg a=Ar.sz a:=by unfold Wg;rw[ax hc]
  rw[e,hc];exact PW ad af cd cf a w h hs hc
 ·have e:Wg a=0:=by unfold Wg;rw[ab hc]
  rw[e];exact PV ad af cd cf a w h hs hc
namespace Ar
theorem Fx :XK a n=true↔∃k,k<a.files.length/\(Nm a.files k).dict=n:=by
 unfold XK;rw[List.any_eq_true];constructor
 ·rintro⟨f,hf,hd⟩;obtain⟨k,hk,rfl⟩:=List.getElem_of_mem hf;exact⟨k,hk,by simpa[Nm,hk]using hd⟩
 ·rintro⟨k,hk,hd⟩;exact⟨a.files[k],gM hk,by simpa[Nm,hk]using hd⟩
theorem PY(h:∀k,k<a.files.length->(Nm a.files k).dict≠n):XK a n=false:=by
 cases hu:XK a n with
 |false=>rfl
 |true=>obtain⟨k,h1,h2⟩:=Fx.1 hu;exact absurd h2 (h k h1)
end Ar
theorem Fy(f:Ar.F)(c i:Nat)(w:World)(hc:w.cell? ⟨c,0,none⟩=some (.int .i64 i))(hi:i<=4) :
 CB 71 #[fv f,.pointer (some ⟨c,0,none⟩)] w (.bool (decide (f.dict=((i+1:Nat):Int)))):=by
 have hlt:c<w.heap.size:=cL w _ hc;unfold fv;have hb:=λo=>(bR w.heap.size w).alloc (nl _) o
 have hii:(i:Int)<=4:=by omega
 rw[show((i+1:Nat):Int)=(i:Int)+1 by omega];generalize f.name=f0 at*;generalize f.dict=f1 at*;generalize f.size=f2 at*;generalize f.sum=f3 at*;generalize f.blk=f4 at*
 obtain⟨r,hr⟩:∃r,decide (f1=(i:Int)+1)=r:=⟨_,rfl⟩
 rw[hr];have hr2:(f1==(i:Int)+1)=r:=by rw[<-hr];rfl
 go_enter func71,ntmps71
 go_wp2_with fail
 go_ret
 exact⟨rfl,hb _⟩
theorem PZ(af:Option Addr)(cf:Nat)(a:Ar.A)(c i:Nat)(w:World)(h:ez w af a.files)(hn:a.files.length<=12)(hc:w.cell? ⟨c,0,none⟩=some (.int .i64 i))(hi:i<=4) :
 Calls prog 109 #[.slice af a.files.length cf,.func (.func 71) #[] #[.pointer (some ⟨c,0,none⟩)]] w λe w'=>∃r:Int,e=.returned (.int .i64 r)/\decide (0<=r)=XK a ((i+1:Nat):Int)/\ae w w':=by
 have hlt:c<w.heap.size:=cL w _ hc;have cy:=Za λw' (h9:ae w w') k (hk:k<a.files.length)=>(h.below h9).at hk
 have HC:Hid (∀w',ae w w'->∀k,CB 71 #[fv (Nm a.files k),.pointer (some ⟨c,0,none⟩)] w' (.bool (decide ((Nm a.files k).dict=((i+1:Nat):Int))))):=λw' h9 k=>Fy _ c i w' ((h9.cell (p:=⟨c,0,none⟩) hlt).trans hc) hi
 have HY:=Za λk (h1:k<a.files.length) (h2:(Nm a.files k).dict=((i+1:Nat):Int))=>Ar.Fx.2 ⟨k,h1,h2⟩
 have HN:=Za λ(h9:(∀k,k<a.files.length->(Nm a.files k).dict≠((i+1:Nat):Int)))=>PY h9
 unfold fv at HC;generalize XK a ((i+1:Nat):Int)=U at*;generalize ((i+1:Nat):Int)=n at*;clear h hc;generalize a.files.length=N at*;have hNi:(N:Int)<=12:=by omega
 go_enter func109,ntmps109
 go_wp2_with fail
 go_loopw [8] (λi wr=>∃k:Nat,k<=N/\i=.int .i64 k/\Hid (∀j,j<k->(Nm a.files j).dict≠n)/\ae w wr) (λi _=>N-(intOf i).toNat)
 case atStart=>exact⟨0,by omega,rfl,λj hj=>by omega,bR _ _⟩
 case round =>
  obtain⟨k,hk2,rfl,HK,B1⟩:=hrel;by_cases hlt:k<N
  ·have d1:=al (by omega:(k:Int)<(N:Int));have d1':=al (by omega:k<N);have hki:(k:Int)<(N:Int):=by omega
   obtain⟨b,off,rfl,hbl,hcell⟩:=cy.out wr B1 k hlt;obtain⟨c0,c1,c2,c3,c4⟩:=hcell;have C:=HC.out wr B1 k;by_cases hd:(Nm a.files k).dict=n
   ·have hU:=HY.out k hlt hd;rw[decide_eq_true hd]at C;clear hd HY HN HK;generalize (Nm a.files k).name=f0 at*;generalize (Nm a.files k).dict=f1 at*;generalize (Nm a.files k).size=f2 at*;generalize (Nm a.files k).sum=f3 at*;generalize (Nm a.files k).blk=f4 at*;have HU:=Za hU;clear hU;go_wp2_with fail
    refine mo C λw2 G=>?_
    go_wp2_with fail
    go_ret
    exact⟨_,rfl,by rw[HU.out];exact al (by omega),ag B1 G⟩
   ·have pM:Hid (∀j,j<k+1->(Nm a.files j).dict≠n):=λj hj=>by
     by_cases e:j=k
     ·subst e;exact hd
     ·exact HK.out j (by omega)
    rw[decide_eq_false hd]at C;clear hd HY HN HK;generalize hf0:(Nm a.files k).name=f0 at*;generalize hf1:(Nm a.files k).dict=f1 at C c1;generalize (Nm a.files k).size=f2 at*;generalize (Nm a.files k).sum=f3 at*;generalize (Nm a.files k).blk=f4 at*;clear hf0 hf1;go_wp2_with fail
    refine mo C λw2 G=>?_
    have B2:=ag B1 G;go_wp2_with fail
    go_roundw
    case rel=>exact⟨k+1,by omega,by go_num,pM,B2⟩
    case measure=>simp[intOf];omega
  ·obtain rfl:k=N:=by omega
   have d1:decide ((k:Int)<(k:Int))=false:=by simp
   have HU:=Za (HN.out HK.out);clear HN HK HY;go_wp2_with fail
   go_ret
   exact⟨_,rfl,by rw[HU.out];rfl,B1⟩
theorem P5(af:Option Addr)(cf:Nat)(a:Ar.A)(c i:Nat)(w:World)(h:ez w af a.files)(hn:a.files.length<=12)(hc:w.cell? ⟨c,0,none⟩=some (.int .i64 i))(hi:i<=4) :
 CB 72 #[.slice af a.files.length cf,.func (.func 71) #[] #[.pointer (some ⟨c,0,none⟩)]] w (.bool (XK a ((i+1:Nat):Int))):=by
 have c1:=PZ af cf a c i w h hn hc hi;generalize XK a ((i+1:Nat):Int)=U at*;generalize a.files.length=N at*;clear h hc;go_enter func72,ntmps72
 go_wp2_with fail
 refine c1.mono ?_;rintro e w1 ⟨r,rfl,hr,G⟩;go_wp2_with fail
 go_ret
 exact⟨by rw[<-hr];rfl,G⟩
structure cx(w0 wr:World)(C lo:Nat)(v1 v2:Value)(n1 n2:Nat)(xs1 xs2:List Value):Prop where
 c0:wr.cell? ⟨C,0,none⟩=some v1
 c1:wr.cell? ⟨C,1,none⟩=some v2
 f0:wr.frozen? ⟨C,0,none⟩=false
 f1:wr.frozen? ⟨C,1,none⟩=false
 o1:wr.ownsRow lo 9 1 v1 n1 xs1
 o2:wr.ownsRow lo 73 5 v2 n2 xs2
 ne:∀j,v1.ownBlock=some j->v2.ownBlock≠some j
 a1:v1.ownBlock≠some C
 a2:v2.ownBlock≠some C
 hC:lo<=C
 hb:C<wr.heap.size
 bel:Below lo w0 wr
theorem cx.below(h:cx w0 wr C lo v1 v2 n1 n2 xs1 xs2)(hb:ae wr w'):cx w0 w' C lo v1 v2 n1 n2 xs1 xs2:=by
 have hB:=h.hb;have hl:=h.hC
 exact⟨(hb.cell (p:=⟨C,0,none⟩) hB).trans h.c0,(hb.cell (p:=⟨C,1,none⟩) hB).trans h.c1,(hb.frozen (p:=⟨C,0,none⟩) hB).trans h.f0,(hb.frozen (p:=⟨C,1,none⟩) hB).trans h.f1,
  Zz h.o1 hb,Zz h.o2 hb,h.ne,h.a1,h.a2,h.hC,nT hB hb.size,h.bel.trans (hb.mono (by omega))⟩
theorem cx.gL{w2:World}{ys:List Value}{o:Obj}(h:cx w0 wr C lo v1 v2 n1 n2 xs1 xs2)(hg:(wr.alloc o).grownBy w2 v1.ownBlock)
 (ho:w2.ownsRow lo 9 1 (.slice (some ⟨g,0,none⟩) m cap) m ys) (hl:v1.ownBlock=some g\/g=(wr.alloc o).heap.size) :
 ((w2.cell? ⟨C,0,none⟩=some v1/\w2.frozen? ⟨C,0,none⟩=false)/\cx w0 (w2.setCell ⟨C,0,none⟩ (.slice (some ⟨g,0,none⟩) m cap)) C lo (.slice (some ⟨g,0,none⟩) m cap) v2 m n2 ys xs2) ∧
 ∀c v,wr.cell? ⟨c,0,none⟩=some v->c≠C->v1.ownBlock≠some c->(w2.setCell ⟨C,0,none⟩ (.slice (some ⟨g,0,none⟩) m cap)).cell? ⟨c,0,none⟩=some v:=by
 have hB:=h.hb;have ic:=h.hC;have hsz:(wr.alloc o).heap.size=wr.heap.size+1:=by simp
 have ha:=h.below ((bR _ _).alloc (nl _) o);have n0:=h.a1.symm;have k0:=Zg hg ha.c0 n0;have k1:=Zg hg ha.c1 n0;have q0:=Zv hg (by omega) ha.f0 n0;have q1:=Zv hg (by omega) ha.f1 n0;have hsg:=Ze w2 ⟨C,0,none⟩ (.slice (some ⟨g,0,none⟩) m cap);have hz:=hg.size
 have gN:g≠C:=by
  rcases hl with hl|hl
  ·rintro rfl;exact h.a1 hl
  ·omega
 refine⟨⟨⟨k0,q0⟩,cS _ _ _ k0,?_,by rw[World.frozen?_setCell];exact q0,by rw[World.frozen?_setCell];exact q1,ho.kept hsg (.inr (by simp[Value.ownBlock];exact gN)),?_,?_,by simp[Value.ownBlock];exact gN,h.a2,ic,?_,?_⟩,?_⟩
 ·exact(cO w2 _ _ _ (by intro e;have:=congrArg Addr.off e;simp at this)).trans k1
 ·refine(ha.o2.kept hg ?_).kept hsg (.inr h.a2)
  cases hv:v2.ownBlock with
  |none=>exact .inl rfl
  |some j=>exact .inr (λe=>h.ne j e.symm hv)
 ·intro j hj e;simp[Value.ownBlock]at hj;subst hj;rcases hl with hl|hl
  ·exact h.ne g hl e
  ·have:=(h.o2.lt g e).2;omega
 ·have:=hsg.size;omega
 ·exact((h.bel.alloc (by omega) o).grown hg (by omega) (λj hj=>(h.o1.lt j hj).1)).setCell ic _
 ·intro c v hc hcC hcv;have hcl:=cL wr _ hc;exact Zg hsg (Zg hg ((gW wr o _ hcl).trans hc) (λe=>hcv e.symm)) (by simp;exact hcC)
theorem P6(d:Int)(h:w.ownsRow lo 73 5 (.slice (some ⟨g,0,none⟩) fs.length cap) fs.length (aw fs))(hi:i<fs.length) :
 (w.setCell ⟨g,i*5+1,none⟩ (.int .i64 d)).ownsRow lo 73 5 (.slice (some ⟨g,0,none⟩) fs.length cap) fs.length (aw (fs.take i++{ Nm fs i with dict:=d } :: fs.drop (i+1)))/\w.cell? ⟨g,i*5+1,none⟩=some (.int .i64 (Nm fs i).dict)/\w.frozen? ⟨g,i*5+1,none⟩=false:=by
 have hcl:=iF fs;rcases h.2 with⟨h1,h2⟩|⟨g',cap',cur,h1,h2,h3,h4,h5,h6,h7⟩
 ·omega
 simp only[Value.slice.injEq,Option.some.injEq,Addr.mk.injEq]at h1;obtain⟨⟨rfl,_⟩,_,rfl⟩:=h1
 have hat:∀j,j<5->w.cell? ⟨g,i*5+j,none⟩=(fc (Nm fs i))[j]?:=λj hj=>by
  rw[nV h3,<-Array.getElem?_toList];have e1:cur.toList[i*5+j]?=(aw fs)[i*5+j]?:=by rw[<-h7,List.getElem?_take,ax (by omega)]
  have e2:fs=fs.take i++Nm fs i :: fs.drop (i+1):=by
   have e3:Nm fs i=fs[i]:=by simp[Nm,hi]
   rw[e3,<-List.drop_eq_getElem_cons hi,List.take_append_drop]
  rw[e1,e2,ZE,List.getElem?_append_right (by rw[iF,List.length_take];omega),iF,List.length_take,show i*5+j-min i fs.length*5=j by omega,aw,List.getElem?_append_left (by simp;omega),<-e2];rfl
 have k0:w.cell? ⟨g,i*5,none⟩=some (.string (Nm fs i).name):=hat 0 (by omega);have k1:w.cell? ⟨g,i*5+1,none⟩=some (.int .i64 (Nm fs i).dict):=hat 1 (by omega);have k2:w.cell? ⟨g,i*5+2,none⟩=some (.int .i64 (Nm fs i).size):=hat 2 (by omega);have k3:w.cell? ⟨g,i*5+3,none⟩=some (.int .i64 (Nm fs i).sum):=hat 3 (by omega);have k4:w.cell? ⟨g,i*5+4,none⟩=some (.string (Nm fs i).blk):=hat 4 (by omega);refine⟨?_,k1,sS h3 _⟩;have hw:=zO { Nm fs i with dict:=d } h hi;unfold fh at hw;simp only at hw;rw[Zd k0]at hw;have j2:=(eQ w g (i*5+1) (i*5+2) (.int .i64 d) (by omega)).trans k2;have j3:=(eQ w g (i*5+1) (i*5+3) (.int .i64 d) (by omega)).trans k3;have j4:=(eQ w g (i*5+1) (i*5+4) (.int .i64 d) (by omega)).trans k4;rw[Zd j2,Zd j3,Zd j4]at hw;exact hw
theorem cx.set1(d:Int)(h:cx w0 wr C lo v1 (.slice (some ⟨g,0,none⟩) fs.length cap) n1 fs.length xs1 (aw fs))(hi:i<fs.length) :
 cx w0 (wr.setCell ⟨g,i*5+1,none⟩ (.int .i64 d)) C lo v1 (.slice (some ⟨g,0,none⟩) fs.length cap) n1 fs.length xs1 (aw (fs.take i++{ Nm fs i with dict:=d } :: fs.drop (i+1)))/\wr.cell? ⟨g,i*5+1,none⟩=some (.int .i64 (Nm fs i).dict)/\wr.frozen? ⟨g,i*5+1,none⟩=false:=by
 obtain⟨r1,r2,r3⟩:=P6 d h.o2 hi;have hsg:=Ze wr ⟨g,i*5+1,none⟩ (.int .i64 d);have gN:some C≠some g:=λe=>h.a2 (show some g=some C from e.symm)
 have hg:=(h.o2.lt g rfl).1;refine⟨⟨Zg hsg h.c0 gN,Zg hsg h.c1 gN,Zv hsg h.hb h.f0 gN,Zv hsg h.hb h.f1 gN,h.o1.kept hsg ?_,r1,h.ne,h.a1,h.a2,h.hC,nT h.hb hsg.size,h.bel.setCell hg _⟩,r2,r3⟩
 cases hv:v1.ownBlock with
 |none=>exact .inl rfl
 |some j=>exact .inr (λe=>h.ne j hv e.symm)
theorem Fr.keep{x y:Value}(h:Fr w w0 x y)(G:Below lo w0 w')(hl:w.heap.size+1<lo):Fr w w' x y:=by
 have h1:w.heap.size<lo:=by omega
 exact⟨h.b.trans (G.mono (by omega)),(G.cell (p:=⟨w.heap.size,0,none⟩) h1).trans h.a0,(G.cell (p:=⟨w.heap.size,1,none⟩) h1).trans h.a1,(G.cell (p:=⟨w.heap.size+1,0,none⟩) hl).trans h.r0,(G.cell (p:=⟨w.heap.size+1,1,none⟩) hl).trans h.r1,
  (G.frozen (p:=⟨w.heap.size+1,0,none⟩) hl).trans h.z0,(G.frozen (p:=⟨w.heap.size+1,1,none⟩) hl).trans h.z1,nT h.hz G.size⟩
namespace Ar
theorem aaE(a:A):∀k,gn a k<=k
 |0=>nl _
 |k+1=>by have:=aaE a k;rw[gn];split<;>omega
theorem Fz(a:A){j k:Nat}(h:j<=k):gn a j<=gn a k:=by
 induction k with
 |zero =>
  obtain rfl:j=0:=by omega
  exact nl _
 |succ k ih =>
  by_cases e:j=k+1
  ·subst e;exact nl _
  ·have:=ih (by omega);rw[gn];omega
theorem YM(a:A):∀k,(VZ a k).length=gn a k
 |0=>rfl
 |k+1=>by
  rw[VZ,gn];split
  ·rw[List.length_append,YM a k];rfl
  ·rw[YM a k];rfl
theorem P7{xs ys:List ByteArray}(h:i<xs.length):VA (xs++ys) i=VA xs i:=by
 simp[VA,List.getElem?_append_left h]
theorem FD{a:A}{n:Nat}(hn:1<=n)(hu:XK a ((n:Nat):Int)=true):∀{k:Nat},n<=k->1<=gn a n/\VA (VZ a k) (gn a n-1)=VA a.aa (n-1)
 |0,h=>by omega
 |k+1,h=>by
  by_cases e:n=k+1
  ·subst e;have e1:gn a (k+1)=gn a k+1:=by rw[gn,ax hu]
   refine⟨by omega,?_⟩;rw[VZ,ax hu,e1,Nat.add_sub_cancel,Nat.add_sub_cancel];have hl:=YM a k;simp[VA,<-hl]
  ·obtain⟨h1,h2⟩:=FD hn hu (k:=k) (by omega);refine⟨h1,?_⟩;have hl:=YM a k;have hm:=Fz a (show n<=k by omega);rw[VZ];split
   ·rw[P7 (by omega)];exact h2
   ·exact h2
theorem P8(h:f∈a.files):XK a f.dict=true:=List.any_eq_true.2 ⟨f,h,decide_eq_true rfl⟩
theorem zU(h:Vz a=0):bh a=⟨VZ a a.aa.length,a.files.map (bU a a.aa.length)⟩:=ax h
theorem zV(a:A)(k:Nat)(f:F):(bU a k f).name=f.name:=by unfold bU;split<;>rfl
theorem zW(a:A)(k:Nat)(f:F):(bU a k f).size=f.size/\(bU a k f).sum=f.sum/\(bU a k f).blk=f.blk:=by unfold bU;split<;>exact⟨rfl,rfl,rfl⟩
theorem FE(hf:f∈a.files)(hd:VY a.aa f.dict=true):V5 (VZ a a.aa.length) (bU a a.aa.length f).dict=V5 a.aa f.dict/\VY (VZ a a.aa.length) (bU a a.aa.length f).dict=true:=by
 have hd':=of_decide_eq_true hd;unfold bU;by_cases h1:1<=f.dict
 ·rw[ax ⟨h1,hd'.2⟩]
  obtain⟨n,hn⟩:∃n:Nat,f.dict=(n:Int):=⟨f.dict.toNat,by omega⟩
  have hu:=P8 hf;rw[hn]at hu hd' h1;obtain⟨h2,h3⟩:=FD (a:=a) (n:=n) (by omega) hu (k:=a.aa.length) (by omega);have hm:=Fz a (show n<=a.aa.length by omega);have hl:=YM a a.aa.length;simp only[hn,Int.toNat_natCast];refine⟨?_,al ⟨by omega,by omega⟩⟩;unfold V5;rw[ab (by omega),ab (by omega),show((gn a n:Nat):Int)-1=((gn a n-1:Nat):Int) by omega,show((n:Nat):Int)-1=((n-1:Nat):Int) by omega,Int.toNat_natCast,Int.toNat_natCast];exact h3
 ·rw[ab (by omega)];have e:f.dict=0:=by omega
  rw[e];exact⟨rfl,al ⟨by omega,by omega⟩⟩
theorem P9(hf:f∈a.files)(hd:VY a.aa f.dict=true):Wd (VZ a a.aa.length) (bU a a.aa.length f)=Wd a.aa f:=by
 unfold Wd;rw[(FE hf hd).1,(zW a _ f).2.2]
theorem zX{a:A}{d:ByteArray}:∀{k:Nat},k<=a.aa.length->d∈VZ a k->d∈a.aa
 |0,_,h=>by simp[VZ]at h
 |k+1,hk,h=>by
  rw[VZ]at h;split at h
  ·rcases List.mem_append.1 h with h|h
   ·exact zX (by omega) h
   ·rw[List.mem_singleton]at h;subst h;rw[show VA a.aa k=a.aa[k] by simp[VA,show k<a.aa.length by omega]];exact gM _
  ·exact zX (by omega) h
theorem Qa(h:dR ds f=true):VY ds f.dict=true:=by
 unfold dR at h;rw[Bool.and_eq_true]at h;exact h.1
theorem Qb(h:Vz a=0):Vz (bh a)=0:=by
 obtain⟨hm,hg⟩:=VV.1 h;obtain⟨m1,m2,m3⟩:=Zj.1 hm;have hp:=my.1 hg;have hl:=YM a a.aa.length;have hr:=aaE a a.aa.length;rw[zU h,VV];refine⟨Zj.2 ⟨by show(VZ _ _).length<=4;omega,by show(List.map _ _).length<=12;rw[List.length_map];exact m2,λd hd=>m3 d (zX (nl _) hd)⟩,my.2 ⟨?_,?_⟩⟩
 ·intro g hg2;obtain⟨f,hf,rfl⟩:=List.mem_map.1 hg2;have hf2:=hp.1 f hf;have hh:=Qa hf2.2;refine⟨by rw[zV];exact hf2.1,?_⟩;have h3:=hf2.2;unfold dR at h3 |-
  show(VY (VZ a a.aa.length) _&&_)=true;rw[(FE hf hh).2,P9 hf hh,(zW a _ f).1,(zW a _ f).2.1];rw[Bool.and_eq_true]at h3;rw[Bool.true_and];exact h3.2
 ·show(List.map _ _).Pairwise _;rw[List.pairwise_map];refine hp.2.imp fun {f g} h9=>?_
  rw[zV,zV];exact h9
theorem vF{size:Int}(h:V6 a size=0):Vz a=0/\0<=size/\size<=256/\a.aa.length≠4:=by
 unfold V6 at h;by_cases h1:Vz a=0
 ·rw[ab (λh9=>h9 h1)]at h;by_cases h2:0<=size/\size<=256
  ·rw[ax h2]at h;by_cases h3:a.aa.length=4
   ·rw[ax h3]at h;cases h
   ·exact⟨h1,h2.1,h2.2,h3⟩
  ·rw[ab h2]at h;cases h
 ·rw[ax h1]at h;exact absurd h h1
theorem zY{size:Int}(h:V6 a size=0):WL a size=⟨V9 a size,a.files.map λf=>VN (V9 a size) f.name (WX a.aa f) (a.aa.length+1:Nat)⟩:=ax h
theorem FF(h:dR ds f=true):(Wd ds f).2=0:=by
 unfold dR at h;rw[Bool.and_eq_true]at h;exact(of_decide_eq_true h.2).1
theorem YP(h:Vz a=0){f:F}(hf:f∈a.files):(WX a.aa f).size<=512:=by
 obtain⟨hm,hg⟩:=VV.1 h;exact Bk.cD (FF ((my.1 hg).1 f hf).2)
theorem zZ{size:Int}(h:V6 a size=0):W6 ⟨V9 a size,a.files⟩=false:=by
 obtain⟨h1,h2,h3,h4⟩:=vF h;obtain⟨m1,m2,m3⟩:=Zj.1 (VV.1 h1).1;refine Zj.2 ⟨by show(a.aa++[_]).length<=4;rw[List.length_append];simp;omega,m2,?_⟩;intro d hd;rcases List.mem_append.1 hd with hd|hd
 ·exact m3 d hd
 ·rw[List.mem_singleton]at hd;subst hd;have:=(Z7 (aY a) size.toNat).most;omega
theorem Qc{size:Int}(h:V6 a size=0):Vz (WL a size)=0:=by
 obtain⟨h1,h2,h3,h4⟩:=vF h;have hm2:=zZ h;obtain⟨m1,m2,m3⟩:=Zj.1 hm2;obtain⟨hm,hg⟩:=VV.1 h1;have hp:=my.1 hg;rw[zY h,VV];refine⟨Zj.2 ⟨m1,by show(List.map _ _).length<=12;rw[List.length_map];exact m2,m3⟩,my.2 ⟨?_,?_⟩⟩
 ·intro g hg2;obtain⟨f,hf,rfl⟩:=List.mem_map.1 hg2;refine⟨(hp.1 f hf).1,?_⟩;exact ET (a:=⟨V9 a size,a.files⟩) hm2 f.name (WX a.aa f) _ (YP h1 hf) (al ⟨by omega,by show _<=(((_++_:List ByteArray).length:Nat):Int);rw[List.length_append];simp⟩)
 ·show(List.map _ _).Pairwise _;rw[List.pairwise_map];exact hp.2
theorem YS(h:Vz a=0):(aY a).length<=12/\∀t∈aY a,t.size<=512:=by
 obtain⟨m1,m2,m3⟩:=Zj.1 (VV.1 h).1;refine⟨by unfold aY;rw[List.length_map];exact m2,λt ht=>?_⟩;obtain⟨f,hf,rfl⟩:=List.mem_map.1 ht;exact YP h hf
end Ar
namespace Ar
def dh(a:A)(k m:Nat):List F:=(a.files.take m).map (bU a (k+1))++(a.files.drop m).map (bU a k)
theorem aaG(h:m<=a.files.length):(dh a k m).length=a.files.length:=by
 unfold dh;rw[List.length_append,List.length_map,List.length_map,List.length_take,List.length_drop];omega
theorem FH(a:A)(k:Nat):dh a k 0=a.files.map (bU a k):=by simp[dh]
theorem FI(a:A)(k:Nat):dh a k a.files.length=a.files.map (bU a (k+1)):=by simp[dh]
theorem FJ(h:f.dict≠((k+1:Nat):Int)):bU a (k+1) f=bU a k f:=by
 unfold bU;by_cases h1:1<=f.dict/\f.dict<=(k:Int)
 ·rw[ax h1,ax ⟨h1.1,by omega⟩]
 ·rw[ab h1,ab (λh2=>h1 ⟨h2.1,by omega⟩)]
theorem Qd(h:f.dict=((k+1:Nat):Int)):bU a (k+1) f={ f with dict:=(gn a (k+1):Nat) }/\bU a k f=f:=by
 unfold bU;constructor
 ·rw[ax ⟨by omega,by omega⟩,h,Int.toNat_natCast]
 ·rw[ab (λh1=>by omega)]
theorem FK(h:m<fs.length):fs.drop m=Nm fs m :: fs.drop (m+1):=by
 rw[List.drop_eq_getElem_cons h,eP h]
theorem FM(h:m<a.files.length):dh a k m=(a.files.take m).map (bU a (k+1))++bU a k (Nm a.files m) :: (a.files.drop (m+1)).map (bU a k)/\dh a k (m+1)=(a.files.take m).map (bU a (k+1))++bU a (k+1) (Nm a.files m) :: (a.files.drop (m+1)).map (bU a k):=by
 unfold dh;rw[FK h,YL h];simp
theorem FN(h:m<a.files.length)(hd:(Nm a.files m).dict≠((k+1:Nat):Int)):dh a k (m+1)=dh a k m:=by
 obtain⟨h1,h2⟩:=FM (k:=k) h;rw[h1,h2,FJ hd]
theorem aaF(h:m<a.files.length)(hd:(Nm a.files m).dict=((k+1:Nat):Int)):dh a k (m+1)=(dh a k m).take m++{ Nm (dh a k m) m with dict:=(gn a (k+1):Nat) } :: (dh a k m).drop (m+1):=by
 obtain⟨h1,h2⟩:=FM (k:=k) h;obtain⟨e1,e2⟩:=Qd (a:=a) hd;have hl:((a.files.take m).map (bU a (k+1))).length=m:=by rw[List.length_map,List.length_take];omega
 rw[h1,h2,e1,e2];generalize (a.files.take m).map (bU a (k+1))=P at*;generalize (a.files.drop (m+1)).map (bU a k)=R;generalize Nm a.files m=f;subst hl;have e3:Nm (P++f :: R) P.length=f:=by simp[Nm]
 rw[e3];simp
theorem FP(h:XK a ((k+1:Nat):Int)=false):VZ a (k+1)=VZ a k/\a.files.map (bU a (k+1))=a.files.map (bU a k):=by
 constructor
 ·rw[VZ,ab (by rw[h];decide)]
 ·apply List.map_congr_left;intro f hf;apply FJ;intro e;have:XK a ((k+1:Nat):Int)=true:=by unfold XK;rw[List.any_eq_true];exact⟨f,hf,al e⟩
  rw[h]at this;cases this
theorem FQ(h:XK a ((k+1:Nat):Int)=true):VZ a (k+1)=VZ a k++[VA a.aa k]:=by
 rw[VZ,ax h]
end Ar
theorem Qe(ad af:Option Addr)(cd cf:Nat)(a:Ar.A)(w:World)(h:bo w ad af a)(hs:ao a)(hc:Vz a≠0) :
 Calls prog 36 #[av ad cd af cf a] w λe w'=>ah w VC (Vz a) e w':=by
 have C1:=Za λw' (h9:ae w w')=>Zm ad af cd cf a w' (h.below h9) hs
 have hQ:Hid (∀w',ae w w'->ah w VC (Vz a) (.returned (.tuple #[.agg #[.slice none 0 0,.slice none 0 0],.int .i64 (Vz a)])) w'):=λw' h9=>ZC h9
 generalize ah w VC (Vz a)=Q at*;unfold av at C1 |-
 generalize Vz a=E at*;generalize a.aa.length=D at*;generalize a.files.length=N at*;have e1:(E != 0)=true:=by simpa using hc
 have e2:(E==0)=false:=by simpa using hc
 clear h hs;go_enter func36,ntmps36
 go_wp2_with fail
 refine mo (C1.out _ (Fr.start w _ _).b) λw1 G1=>?_
 have F1:=(Fr.start w _ _).next G1;clear G1;obtain⟨b,a0,a1,r0,r1,z0,z1,hz⟩:=id F1;go_wp2_with fail
 rw[F1.zero];exact bodyPost_ret (v:=.tuple #[.agg #[.slice none 0 0,.slice none 0 0],.int .i64 E]) (by simp[results,results36,go_sem,F1.r0,F1.r1]) rfl (hQ.out _ F1.b)
theorem Qf(ad af:Option Addr)(cd cf:Nat)(a:Ar.A)(w:World)(h:bo w ad af a)(hs:ao a)(hc:Vz a=0) :
 Calls prog 36 #[av ad cd af cf a] w λe w'=>ah w ⟨VZ a a.aa.length,a.files.map (bU a a.aa.length)⟩ 0 e w':=by
 obtain⟨i0,hi,hz0,hz1,hz2⟩:=info_parts (P:=prog) (e:=9) (z:=.string ⟨#[]⟩) (size:=1) (bytes:=16) (by kernel_rfl);obtain⟨m1,m2,m3⟩:=Zj.1 (VV.1 hc).1;have C1:=Za λw' (h9:ae w w')=>Zm ad af cd cf a w' (h.below h9) hs
 have C6:=Za λw' (h9:ae w w')=>sK ad af cd cf a w' (h.below h9) hs m1 m2
 have CU:=Za λw' c k (h9:ae w w') (h8:w'.cell? ⟨c,0,none⟩=some (.int .i64 (k:Nat))) (h7:k<=4)=>P5 af cf a c k w' (h.fs.below h9) m2 h8 h7
 have HX:=Za λw' (hb:ae w w') k (hk:k<a.aa.length)=>(h.ds.below hb).at hk
 have cy:=Za λw' (h9:ae w w') k (hk:k<a.files.length)=>(h.fs.below h9).at hk
 have HZ:Hid (∀k,(VA a.aa k).size<=281474976710656):=λk=>nt (hs.ds k) (by decide)
 rw[hc]at C1;unfold av at C1 C6 |-
 obtain⟨D,hD⟩:∃D,a.aa.length=D:=⟨_,rfl⟩
 obtain⟨N,hN⟩:∃N,a.files.length=N:=⟨_,rfl⟩
 have vt:=Za hD;have cK:=Za hN;rw[hD]at C1 C6 HX m1 |-
 rw[hN]at C1 C6 CU cy m2 |-
 have hQ:Hid (∀v1 v2 w',w'.ownsRow w.heap.size 9 1 v1 (VZ a D).length ((VZ a D).map Value.string)->w'.ownsRow w.heap.size 73 5 v2 N (aw (a.files.map (bU a D)))->(∀j,v1.ownBlock=some j->v2.ownBlock≠some j)->ae w w'->ah w ⟨VZ a D,a.files.map (bU a D)⟩ 0 (.returned (.tuple #[.agg #[v1,v2],.int .i64 0])) w'):=λv1 v2 w' h1 h2 h3 h4=>⟨v1,v2,rfl,⟨h1,by show w'.ownsRow _ _ _ _ (a.files.map (bU a D)).length _;rw[List.length_map,hN];exact h2,h3⟩,h4⟩
 generalize ah w ⟨VZ a D,a.files.map (bU a D)⟩ 0=Q at*;have HI0:Hid (∀k,aw (a.files.map (bU a k))=aw (dh a k 0)):=λk=>by rw[FH]
 have s8:Hid (∀k,aw (dh a k N)=aw (a.files.map (bU a (k+1)))):=λk=>by rw[<-hN,FI]
 have H0:Hid (a.files.map (bU a 0)=a.files):=by
  show _=_;have:∀f:Ar.F,bU a 0 f=f:=λf=>by unfold bU;rw[ab (by omega)]
  rw[show bU a 0=id from funext this,List.map_id]
 have HA:Hid (∀lo w' v1 v2,aD lo w' v1 v2 a->w'.ownsRow lo 9 1 v1 D (a.aa.map Value.string)/\w'.ownsRow lo 73 5 v2 N (aw (a.files.map (bU a 0)))):=λlo w' v1 v2 h9=>⟨by rw[<-hD];exact h9.o1,by rw[H0.out,<-hN];exact h9.o2⟩
 clear h hs hc m3 hD hN H0;have hDi:(D:Int)<=4:=by omega
 have hNi:(N:Int)<=12:=by omega
 go_enter func36,ntmps36
 go_wp2_with fail
 refine mo (C1.out _ (Fr.start w _ _).b) λw1 G1=>?_
 have F1:=(Fr.start w _ _).next G1;clear G1 C1;obtain⟨b,a0,a1,r0,r1,z0,z1,hz⟩:=id F1;go_wp2_with fail
 refine(C6.out _ F1.b).mono ?_;rintro e w6 ⟨v1,v2,rfl,O6,G6⟩;have F6:=F1.next G6;obtain⟨o1,o2⟩:=HA.out _ _ _ _ O6;have hlo:=F1.hz;have hl0:=G6.size;generalize w1.heap.size=lo at o1 o2 hlo hl0;clear G6 O6 HA b a0 a1 r0 r1 z0 z1 hz C6 F1;obtain⟨p1,q1,rfl,_⟩:=Zq o1;obtain⟨p2,q2,rfl,_⟩:=Zq o2;obtain⟨b,a0,a1,r0,r1,z0,z1,hz⟩:=id F6;have cm:w.heap.size<w6.heap.size:=by omega
 have S0:cx w6 (w6.alloc (.cells #[.slice none 0 0,.slice p2 N q2] 35 (0,0))) w6.heap.size lo (.slice none 0 0) (.slice p2 N q2) (VZ a 0).length N ((VZ a 0).map Value.string) (aw (a.files.map (bU a 0))) :=
  ⟨cN _ _ _ 0,cN _ _ _ 1,fN _ _ _ _ rfl,fN _ _ _ _ rfl,⟨rfl,.inl ⟨rfl,rfl⟩⟩,o2.alloc _,λj hj=>by simp[Value.ownBlock]at hj,by simp[Value.ownBlock],λe=>by have:=(o2.lt _ e).2;omega,hl0,by simp,(bR _ _).alloc hl0 _⟩
 clear o1 o2;go_wp2_with fail
 clear b a0 a1 r0 r1 z0 z1 hz;generalize (w6.alloc (.cells #[.slice none 0 0,.slice p2 N q2] 35 (0,0)))=w7 at*;generalize w6.heap.size=C at*;go_loopw [23] (λi wr=>∃(k:Nat) (v1:Value),k<=D/\i=.int .i64 k/\cx w6 wr C lo v1 (.slice p2 N q2) (VZ a k).length N ((VZ a k).map Value.string) (aw (a.files.map (bU a k)))) (λi _=>D-(intOf i).toNat)
 case atStart=>exact⟨0,_,by omega,rfl,S0⟩
 case round =>
  clear S0;obtain⟨k,v1,hk2,rfl,S1⟩:=hrel;have F7:=F6.keep S1.bel hlo;obtain⟨b,a0,a1,r0,r1,z0,z1,hz⟩:=id F7;have hzw:w.heap.size<wr.heap.size:=by omega
  by_cases hlt:k<D
  ·have d1:=al (by omega:(k:Int)<(D:Int));have d1':=al (by omega:k<D);have hki:(k:Int)<(D:Int):=by omega
   obtain⟨b9,off,rfl,hbl,hc⟩:=HX.out wr b k hlt;have xz:=HZ.out k;generalize hX:VA a.aa k=X at*;have mB:=Za hX;clear hX;go_wp2_with fail
   have S2:=S1.below ((bR _ _).alloc (nl _) (.cells #[.int .i64 (k:Int)] 3 (0,0)));have B2:=(F6.keep S2.bel hlo).b;have hcb:(wr.alloc (.cells #[.int .i64 (k:Int)] 3 (0,0))).cell? ⟨wr.heap.size,0,none⟩=some (.int .i64 (k:Int)):=cN _ _ _ 0;refine mo (CU.out _ _ k B2 hcb (by omega)) λw2 G2=>?_
   have S3:=S2.below G2;have hcb2:=(G2.cell (p:=⟨wr.heap.size,0,none⟩) (by simp)).trans hcb;have hlv1:v1.ownBlock≠some wr.heap.size:=λe=>by have:=(S1.o1.lt _ e).2;omega
   have hlv2:(Value.slice p2 N q2).ownBlock≠some wr.heap.size:=λe=>by have:=(S1.o2.lt _ e).2;omega
   have Qg:wr.heap.size≠C:=by have:=S1.hb;omega
   clear S1 S2 G2 hcb B2 F7 b a0 a1 r0 r1 z0 z1 hz hc hbl;generalize wr.heap.size=c at*
   cases hu:XK a ((k+1:Nat):Int) with
   |false =>
    obtain⟨e1,e2⟩:=FP hu;have kW:=Za e1;have HE2:=Za e2;clear e1 e2 hu;go_wp2_with fail
    go_roundw
    case rel=>exact⟨k+1,v1,by omega,by go_num,by rw[kW.out,HE2.out];exact S3⟩
    case measure=>simp[intOf];omega
   |true =>
    have kW:Hid (VZ a (k+1)=VZ a k++[X]):=by show _=_;rw[FQ hu,mB.out]
    clear hu
    obtain⟨L,hL⟩:∃L,(VZ a k).length=L:=⟨_,rfl⟩
    have hL4:L<=4:=by
     have e1:=YM a k;have e2:=aaE a k;omega
    have tc:Hid ((VZ a (k+1)).length=L+1):=by show _=_;rw[kW.out,List.length_append,hL];rfl
    have mg:Hid ((VZ a (k+1)).map Value.string=(VZ a k).map Value.string++[.string X]):=by show _=_;rw[kW.out,List.map_append];rfl
    have HY:Hid (∀m,m<N->(Nm a.files m).dict=((k+1:Nat):Int)->aw (dh a k (m+1))=aw ((dh a k m).take m++{ Nm (dh a k m) m with dict:=(L:Int)+1 } :: (dh a k m).drop (m+1))):=λm h1 h2=>by
     have e:((Ar.gn a (k+1):Nat):Int)=(L:Int)+1:=by rw[<-YM,tc.out];rfl
     rw[aaF (by rw[cK.out];exact h1) h2,e]
    have Aa:Hid (∀m,m<N->(Nm a.files m).dict≠((k+1:Nat):Int)->aw (dh a k (m+1))=aw (dh a k m)):=λm h1 h2=>by rw[FN (by rw[cK.out];exact h1) h2]
    have Ab:Hid (∀m,m<N->(dh a k m).length=N):=λm h1=>by rw[aaG (by rw[cK.out];omega),cK.out]
    rw[hL,HI0.out]at S3;clear hL kW mB;have c0:=S3.c0;have f0:=S3.f0;have hLi:(L:Int)<=4:=by omega
    generalize (VZ a k).map Value.string=XS at*;go_wp2_with fail
    go_region_law (first
     |(refine gF _ rfl _ _ 32 rfl lo 9 i0 (.string ⟨#[]⟩) 1 16 je hi hz0 hz1 hz2 rfl (by decide) v1 _ _ rfl (S4.o1.alloc _) ⟨w4.heap.size,0,none⟩ 1 1 [.string X] rfl rfl (cell_one_new _ _ _) (by simp[Value.oneCell']) (by decide) (by unfold maxLen;omega) (by omega) (by simp;omega) _ rfl ?_;intro g cp w5 hown5 aB bc fI;obtain⟨⟨⟨mC,qq2⟩,S5⟩,K5⟩:=S4.gL aB hown5 bc;have td:=K5 c _ tf Qg hlv1;clear aB hown5 bc fI K5)
     |(go_simp;go_at_call 73;refine(ZY _ _ xz).mono ?_;rintro e w4 ⟨rfl,G4⟩;have nM:=(Below.trans ((bR w2.heap.size w2).drew) G4);have S4:=S3.below nM;have c2:=S4.c0;have c3:∀o,(w4.alloc o).cell? ⟨C,0,none⟩=some v1:=(λo=>(gW _ _ _ (cL w4 _ c2)).trans c2);have hb4:=S4.hb;have Qh:=S4.hC;have tf:=(nM.cell (p:=⟨c,0,none⟩) (cL w2 _ hcb2)).trans hcb2))
    all_goals
     clear S4 c2 c3 hb4 Qh tf G4 nM S3 hcb2 c0 f0 mC qq2;generalize w5.setCell _ _=wq at*;have Fq:=F6.keep S5.bel hlo;have a1:=Fq.a1;clear Fq;go_wp2_with fail
     clear a1;go_loopw [44] (λi wr=>∃m:Nat,m<=N/\i=.int .i64 m/\cx w6 wr C lo (.slice (some ⟨g,0,none⟩) (L+1) cp) (.slice p2 N q2) (L+1) N (XS++[.string X]) (aw (dh a k m))/\wr.cell? ⟨c,0,none⟩=some (.int .i64 (k:Int))) (λi _=>N-(intOf i).toNat)
     case atStart=>exact⟨0,by omega,rfl,S5,td⟩
     case round =>
      clear S5 td;obtain⟨m,hm2,rfl,S6,iV⟩:=hrel;have B6:=(F6.keep S6.bel hlo).b;by_cases hlt2:m<N
      ·have d2:=al (by omega:(m:Int)<(N:Int));have eJ:=al (by omega:m<N);have jQ:(m:Int)<(N:Int):=by omega
       obtain⟨bf,of,rfl,hbl,hcf⟩:=cy.out _ B6 m hlt2;obtain⟨x0,x1,x2,x3,x4⟩:=hcf;have CK:=λw' h9=>Fy (Nm a.files m) c k w' h9 (by omega)
       unfold fv at CK;have iW:=Ab.out m hlt2;by_cases hd:(Nm a.files m).dict=((k+1:Nat):Int)
       ·have e1:=HY.out m hlt2 hd;have HE:Hid (aw (dh a k (m+1))=aw ((dh a k m).take m++{ Nm (dh a k m) m with dict:=(L:Int)+1 } :: (dh a k m).drop (m+1))):=e1;rw[decide_eq_true hd]at CK;clear e1 hd;rcases S6.o2.2 with⟨_,h0⟩|⟨g2,cap2,bY,e,_⟩
        ·omega
        simp only[Value.slice.injEq]at e;obtain⟨rfl,_,rfl⟩:=e;generalize (Nm a.files m).name=y0 at*;generalize (Nm a.files m).dict=y1 at*;generalize (Nm a.files m).size=y2 at*;generalize (Nm a.files m).sum=y3 at*;generalize (Nm a.files m).blk=y4 at*;go_wp2_with fail
        have gO:=λo=>(gW _ o _ (cL _ _ iV)).trans iV
        refine mo (CK _ (gO _)) λw9 G9=>?_
        have S7:=(S6.below ((bR _ _).alloc (nl _) _)).below G9;have mD:=(G9.cell (p:=⟨c,0,none⟩) (cL _ _ (gO _))).trans (gO _);have Qi:=Za iW;rw[<-iW]at S7;obtain⟨S8,t1,t2⟩:=cx.set1 ((L:Int)+1) S7 (i:=m) (by omega);have c0:=S7.c0;have c1:=S7.c1;rw[iW]at c1 S8;have Ac:(w9.setCell ⟨g2,m*5+1,none⟩ (.int .i64 ((L:Int)+1))).cell? ⟨c,0,none⟩=some (.int .i64 (k:Int)):=Zg (Ze w9 ⟨g2,m*5+1,none⟩ _) mD (λe=>hlv2 (show some g2=some c from e.symm));clear S6 S7 iV gO mD G9 iW x0 x1 x2 x3 x4 CK;go_wp2_with fail
        go_roundw
        case rel=>exact⟨m+1,by omega,by go_num,by rw[HE.out];exact S8,Ac⟩
        case measure=>simp[intOf];omega
       ·have e1:=Aa.out m hlt2 hd;have HE:=Za e1;rw[decide_eq_false hd]at CK;clear e1 hd;generalize (Nm a.files m).name=y0 at*;generalize (Nm a.files m).dict=y1 at*;generalize (Nm a.files m).size=y2 at*;generalize (Nm a.files m).sum=y3 at*;generalize (Nm a.files m).blk=y4 at*;go_wp2_with fail
        have gO:=λo=>(gW _ o _ (cL _ _ iV)).trans iV
        refine mo (CK _ (gO _)) λw9 G9=>?_
        have S7:=(S6.below ((bR _ _).alloc (nl _) _)).below G9;have mD:=(G9.cell (p:=⟨c,0,none⟩) (cL _ _ (gO _))).trans (gO _);clear S6 iV gO G9 iW x0 x1 x2 x3 x4 CK;go_wp2_with fail
        go_roundw
        case rel=>exact⟨m+1,by omega,by go_num,by rw[HE.out];exact S7,mD⟩
        case measure=>simp[intOf];omega
      ·obtain rfl:m=N:=by omega
       have d2:decide ((m:Int)<(m:Int))=false:=by simp
       rw[s8.out,<-mg.out,<-tc.out]at S6;clear iV B6;go_wp2_with fail
       go_roundw
       case rel=>exact⟨k+1,_,by omega,by go_num,S6⟩
       case measure=>simp[intOf];omega
  ·obtain rfl:k=D:=by omega
   have d1:decide ((k:Int)<(k:Int))=false:=by simp
   obtain⟨Bz,eS,eU,gd,gw⟩:=lP b S1.o1 S1.o2 hlo r0 r1;obtain⟨pp,qq,rfl,_⟩:=Zq S1.o1;have iU:=S1.ne;have c0:=S1.c0;have c1:=S1.c1;have hC2:=S1.hb;clear S1;go_wp2_with fail
   generalize (wr.setCell _ _).setCell _ _=wz at*;exact bodyPost_ret (v:=.tuple #[.agg #[.slice pp (VZ a k).length qq,.slice p2 N q2],.int .i64 0]) (by simp[results,results36,go_sem,gd,gw]) rfl (hQ.out _ _ _ eS eU iU Bz)
theorem Qj(ad af:Option Addr)(cd cf:Nat)(a:Ar.A)(w:World)(h:bo w ad af a)(hs:ao a) :
 Calls prog 36 #[av ad cd af cf a] w λe w'=>ah w (bh a) (Vz a) e w':=by
 by_cases hc:Vz a=0
 ·rw[zU hc,hc];exact Qf ad af cd cf a w h hs hc
 ·have e:bh a=VC:=by unfold bh;rw[ab hc]
  rw[e];exact Qe ad af cd cf a w h hs hc
end Go.Proofs.YtbjbjbpgmojcbacGreatDoor
