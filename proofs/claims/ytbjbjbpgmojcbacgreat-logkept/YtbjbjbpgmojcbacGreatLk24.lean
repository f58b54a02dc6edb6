/- A part of the proof: what it leans on. -/
import Derived.Laws.AppendOwn
import Derived.Test.YtbjbjbpgmojcbacGreatLk23
set_option maxRecDepth 8000
set_option maxHeartbeats 4000000
namespace Go.Proofs.YtbjbjbpgmojcbacGreat
open Go.RowKit
theorem ZaY {w wf:World} {v1 v2:Value} {n1 n2 lo:Nat} {xs1 xs2:List Value} {u0 u1:Value} (b:Below w.heap.size w wf) (o1:wf.ownsRow lo 9 1 v1 n1 xs1) (o2:wf.ownsRow lo 47 5 v2 n2 xs2) (hlo:w.heap.size+1<lo)
 (r0:wf.cell? ⟨w.heap.size+1,0,none⟩=some u0) (r1:wf.cell? ⟨w.heap.size+1,1,none⟩=some u1) :
 Below w.heap.size w ((wf.setCell ⟨w.heap.size+1,0,none⟩ v1).setCell ⟨w.heap.size+1,1,none⟩ v2)/\((wf.setCell ⟨w.heap.size+1,0,none⟩ v1).setCell ⟨w.heap.size+1,1,none⟩ v2).ownsRow w.heap.size 9 1 v1 n1 xs1/\((wf.setCell ⟨w.heap.size+1,0,none⟩ v1).setCell ⟨w.heap.size+1,1,none⟩ v2).ownsRow w.heap.size 47 5 v2 n2 xs2 ∧
 ((wf.setCell ⟨w.heap.size+1,0,none⟩ v1).setCell ⟨w.heap.size+1,1,none⟩ v2).cell? ⟨w.heap.size+1,0,none⟩=some v1/\((wf.setCell ⟨w.heap.size+1,0,none⟩ v1).setCell ⟨w.heap.size+1,1,none⟩ v2).cell? ⟨w.heap.size+1,1,none⟩=some v2:=by
 have g1:=Zc wf ⟨w.heap.size+1,0,none⟩ v1;have g2:=Zc (wf.setCell ⟨w.heap.size+1,0,none⟩ v1) ⟨w.heap.size+1,1,none⟩ v2;refine ⟨(b.setCell (by show _<=w.heap.size+1;omega) _).setCell (by show _<=w.heap.size+1;omega) _,?_,?_,?_,?_⟩
 ·exact ZcI ((o1.kept g1 (.inr (Zat o1 (by show w.heap.size+1<_;omega)).symm)).kept g2 (.inr (Zat o1 (by show w.heap.size+1<_;omega)).symm)) (by omega)
 ·exact ZcI ((o2.kept g1 (.inr (Zat o2 (by show w.heap.size+1<_;omega)).symm)).kept g2 (.inr (Zat o2 (by show w.heap.size+1<_;omega)).symm)) (by omega)
 ·rw [ZaD _ _ _ _ _ (by decide)];exact Zix r0
 ·exact Zix ((ZaD _ _ _ _ _ (by decide)).trans r1)
theorem Zmc (ad af:Option Addr) (cd cf:Nat) (a:Ar.A) (name text:ByteArray) (dict:Int) (w:World) (h:ArV w ad af a) (hs:SaneA a) (hn:name.size<=140737488355328) (hc:Ar.chk a=0) (hm:Ar.isNm name=true) (hd:Ar.has a.dicts dict=true) (hl:text.size<=512) (hT:Ar.ZK a.files name=true) :
 Calls Tryz.prog 12 #[av ad cd af cf a,.string name,.string text,.int .i64 dict] w fun e w'=>ArSaid w ⟨a.dicts,Ar.putF a.files (Ar.pk a.dicts name text dict)⟩ 0 e w':=by
 have C1:Hid (∀ w',Below w.heap.size w w'->Calls Tryz.prog 24 #[av ad cd af cf a] w' fun e w2=>e=.returned (.int .i64 (Ar.chk a))/\Below w'.heap.size w' w2):=fun w' h9=>Zv ad af cd cf a w' (h.below h9) hs
 have C2:Hid (∀ w',Calls Tryz.prog 25 #[.string name] w' fun e w2=>e=.returned (.bool (Ar.isNm name))/\w2=w'):=fun w'=>Zav name w' hn
 have C3:Hid (∀ w',Calls Tryz.prog 26 #[av ad cd af cf a,.int .i64 dict] w' fun e w2=>e=.returned (.bool (Ar.has a.dicts dict))/\Below w'.heap.size w' w2):=fun w'=>Zaw ad af cd cf a dict w' hs.nd
 have hsr:=Ar.ZaX hc;obtain ⟨m1,m2,m3⟩:=Ar.Zw.1 (Ar.Ze.1 hc).1;have C4:Hid (∀ w',Below w.heap.size w w'->Calls Tryz.prog 27 #[av ad cd af cf a,.string name] w' fun e w2=>e=.returned (.tuple #[.int .i64 (Ar.pos a.files name:Nat),.bool (Ar.ZK a.files name)])/\Below w'.heap.size w' w2):=fun w' h9=>ZbN ad af cd cf a name w' (h.fs.below h9) (by omega) hsr
 have hdz:(Ar.dct a.dicts dict).size<=256:=Ar.ZaL (Ar.Ze.1 hc).1 dict;have C5:Hid (∀ w',Below w.heap.size w w'->Calls Tryz.prog 28 #[av ad cd af cf a,.string name,.string text,.int .i64 dict] w' fun e w2=>e=.returned (.tuple #[fv (Ar.pk a.dicts name text dict),.int .i64 0])/\Below w'.heap.size w' w2):=fun w' h9=>Zby ad af cd cf a name text dict w' (h.ds.below h9) m1 hdz hd hl hn
 have C6:Hid (∀ w',Below w.heap.size w w'->Calls Tryz.prog 29 #[av ad cd af cf a] w' fun e w2=>∃ v1 v2,e=.returned (.agg #[v1,v2])/\ArOwn w'.heap.size w2 v1 v2 a/\Below w'.heap.size w' w2):=fun w' h9=>Zbe ad af cd cf a w' (h.below h9) hs m1 m2
 rw [hc] at C1;rw [hm] at C2;rw [hd] at C3;rw [hT] at C4;have hp:=(Ar.ZX hT).1;have hP:Ar.putF a.files (Ar.pk a.dicts name text dict)=_:=ZkK (f:=Ar.pk a.dicts name text dict) hT
 have HO:Hid (∀ lo g cap w',w'.ownsRow lo 47 5 (.slice (some ⟨g,0,none⟩) a.files.length cap) a.files.length (fcs a.files)->(w5s w' g (Ar.pos a.files name*5) (.string name) (.int .i64 dict) (.int .i64 (text.size:Int)) (.int .i64 (Ar.sm text)) (.string (Bk.pak (Ar.dct a.dicts dict) text).1)).ownsRow lo 47 5 (.slice (some ⟨g,0,none⟩) a.files.length cap) a.files.length (fcs (Ar.putF a.files (Ar.pk a.dicts name text dict)))):=fun lo g cap w' h9=>by
  rw [hP];exact Zfx (Ar.pk a.dicts name text dict) h9 hp
 have e1:fv (Ar.pk a.dicts name text dict)=.agg #[.string name,.int .i64 dict,.int .i64 (text.size:Int),.int .i64 (Ar.sm text),.string (Bk.pak (Ar.dct a.dicts dict) text).1]:=rfl;rw [e1] at C5
 have hpl:(Ar.putF a.files (Ar.pk a.dicts name text dict)).length=a.files.length:=by
  rw [hP];simp only [List.length_append,List.length_take,List.length_cons,List.length_drop];show min (Ar.pos a.files name) _+(a.files.length - (Ar.pos a.files name+1)+1)=_;omega
 have hQ:Hid (∀ v1 v2 w',w'.ownsRow w.heap.size 9 1 v1 a.dicts.length (a.dicts.map Value.string)->w'.ownsRow w.heap.size 47 5 v2 a.files.length (fcs (Ar.putF a.files (Ar.pk a.dicts name text dict)))->(∀ j,v1.ownBlock=some j->v2.ownBlock ≠ some j)->Below w.heap.size w w'->ArSaid w ⟨a.dicts,Ar.putF a.files (Ar.pk a.dicts name text dict)⟩ 0 (.returned (.tuple #[.agg #[v1,v2],.int .i64 0])) w'):=fun v1 v2 w' h1 h2 h3 h4=>⟨v1,v2,rfl,⟨h1,by show w'.ownsRow _ _ _ _ (Ar.putF a.files (Ar.pk a.dicts name text dict)).length _;rw [hpl];exact h2,h3⟩,h4⟩
 generalize ArSaid w ⟨a.dicts,Ar.putF a.files (Ar.pk a.dicts name text dict)⟩ 0=Q at *;generalize fcs (Ar.putF a.files (Ar.pk a.dicts name text dict))=FC at *;clear hP hpl e1
 have HA:Hid (∀ lo w' v1 v2,ArOwn lo w' v1 v2 a->w'.ownsRow lo 9 1 v1 a.dicts.length (a.dicts.map Value.string)/\w'.ownsRow lo 47 5 v2 a.files.length (fcs a.files)/\(∀ j,v1.ownBlock=some j->v2.ownBlock ≠ some j)):=fun lo w' v1 v2 h9=>⟨h9.o1,h9.o2,h9.ne⟩
 generalize fcs a.files=FA at *;generalize (Bk.pak (Ar.dct a.dicts dict) text).1=K at *;generalize Ar.sm text=M at *;generalize Ar.pos a.files name=p at *;unfold av at C1 C3 C4 C5 C6 |-
 clear h hs hn hc hm hd hsr m3 hT;generalize a.dicts.length=D at *;generalize a.files.length=N at *;have hl':¬ (512:Int)<(text.size:Int):=by omega
 have d1:decide ((512:Int)<(text.size:Int))=false:=dF hl';go_enter Tryz.func12,Tryz.ntmps12
 go_wp2_with fail
 refine (C1.out _ (Fr.start w _ _).b).mono ?_;rintro e w1 ⟨rfl,G1⟩;have F1:=(Fr.start w _ _).next G1;clear G1;obtain ⟨b,a0,a1,r0,r1,z0,z1,hz⟩:=id F1;go_wp2_with fail
 refine (C2.out _).mono ?_;rintro e w2 ⟨rfl,rfl⟩;go_wp2_with fail
 refine (C3.out _).mono ?_;rintro e w3 ⟨rfl,G3⟩;clear b a0 a1 r0 r1 z0 z1 hz;have F3:=F1.next G3;clear G3;obtain ⟨b,a0,a1,r0,r1,z0,z1,hz⟩:=id F3;go_wp2_with fail
 refine (C4.out _ F3.b).mono ?_;rintro e w4 ⟨rfl,G4⟩;clear b a0 a1 r0 r1 z0 z1 hz;have F4:=F3.next G4;clear G4;obtain ⟨b,a0,a1,r0,r1,z0,z1,hz⟩:=id F4;go_wp2_with fail
 refine (C5.out _ F4.b).mono ?_;rintro e w5 ⟨rfl,G5⟩;clear b a0 a1 r0 r1 z0 z1 hz;have F5:=F4.next G5;clear G5;obtain ⟨b,a0,a1,r0,r1,z0,z1,hz⟩:=id F5;have hz5:w.heap.size<w5.heap.size:=by omega
 go_wp2_with fail
 have F6:=F5.next ((bR _ _).alloc (nl _) (.cells #[.string name,.int .i64 dict,.int .i64 (text.size:Int),.int .i64 M,.string K] 47 (0,0)));refine (C6.out _ F6.b).mono ?_;rintro e w6 ⟨v1,v2,rfl,O6,G6⟩;have F7:=F6.next G6;have hlt6:w5.heap.size<w6.heap.size:=by have:=G6.size;simp at this;omega
 have hf:=fun j=>(G6.cell (p:=⟨w5.heap.size,j,none⟩) (by simp)).trans (cN _ _ _ j)
 have f0:w6.cell? ⟨w5.heap.size,0,none⟩=some (.string name):=hf 0;have f1:w6.cell? ⟨w5.heap.size,1,none⟩=some (.int .i64 dict):=hf 1;have f2:w6.cell? ⟨w5.heap.size,2,none⟩=some (.int .i64 (text.size:Int)):=hf 2;have f3:w6.cell? ⟨w5.heap.size,3,none⟩=some (.int .i64 M):=hf 3;have f4:w6.cell? ⟨w5.heap.size,4,none⟩=some (.string K):=hf 4;obtain ⟨o1,o2,o3⟩:=HA.out _ _ _ _ O6;have hlo:w.heap.size+1<(w5.alloc (.cells #[.string name,.int .i64 dict,.int .i64 (text.size:Int),.int .i64 M,.string K] 47 (0,0))).heap.size:=F6.hz;generalize (w5.alloc (.cells #[.string name,.int .i64 dict,.int .i64 (text.size:Int),.int .i64 M,.string K] 47 (0,0))).heap.size=lo at o1 o2 hlo;clear hf G6 F6 O6 HA b a0 a1 r0 r1 z0 z1 hz C1 C2 C3 C4 C5 C6;obtain ⟨b,a0,a1,r0,r1,z0,z1,hz⟩:=id F7;obtain ⟨p1,q1,rfl,_⟩:=Zi o1;clear F1 F3 F4 F5;rcases o2.2 with ⟨_,h2⟩ | ⟨g,cap,cur,rfl,h2,h3,h4,h5,h6,h7⟩
 ·omega
 ·have hg6:g<w6.heap.size:=Array.getElem?_eq_some_iff.mp h3 |>.1
  have hcs:∀ j,j<cur.size->w6.cell? ⟨g,j,none⟩=some (cur.getD j undef):=fun j hj=>by
   rw [ZgA h3,Array.getElem?_eq_getElem hj];simp [Array.getD,hj]
  have g0:=hcs (p*5) (by omega);have g1:=hcs (p*5+1) (by omega);have g2:=hcs (p*5+2) (by omega);have g3:=hcs (p*5+3) (by omega);have g4:=hcs (p*5+4) (by omega);have y:=ZdR h3;have y0:=y (p*5);have y1:=y (p*5+1);have y2:=y (p*5+2);have y3:=y (p*5+3);have y4:=y (p*5+4);have hpN:(p:Int)<(N:Int):=by omega
  have hz6:w.heap.size<w6.heap.size:=by omega
  generalize cur.getD (p*5) undef=u0 at *;generalize cur.getD (p*5+1) undef=u1 at *;generalize cur.getD (p*5+2) undef=u2 at *;generalize cur.getD (p*5+3) undef=u3 at *;generalize cur.getD (p*5+4) undef=u4 at *;have gr:=ZcN w6 g (p*5) (.string name) (.int .i64 dict) (.int .i64 (text.size:Int)) (.int .i64 M) (.string K);have P1:=HO.out lo g cap w6 o2;have P0:=o1.kept gr (.inr (fun e=>o3 g e rfl));have hRg:some (w.heap.size+1) ≠ some g:=by simp;omega
  obtain ⟨Bz,Oz1,Oz2,Rz0,Rz1⟩:=ZaY (ZfT b g (p*5) (.string name) (.int .i64 dict) (.int .i64 (text.size:Int)) (.int .i64 M) (.string K) (by omega)) P0 P1 hlo (Zd gr r0 hRg) (Zd gr r1 hRg);clear h3 h6 h7 hcs y HO gr P0 P1;go_wp2_with fail
  unfold w5s at Bz Oz1 Oz2 Rz0 Rz1;have hzz:=cL _ _ Rz0;generalize (((((((w6.setCell ⟨g,p*5,none⟩ (.string name)).setCell ⟨g,p*5+1,none⟩ (.int .i64 dict)).setCell ⟨g,p*5+2,none⟩ (.int .i64 (text.size:Int))).setCell ⟨g,p*5+3,none⟩ (.int .i64 M)).setCell ⟨g,p*5+4,none⟩ (.string K)).setCell ⟨w.heap.size+1,0,none⟩ (.slice p1 D q1)).setCell ⟨w.heap.size+1,1,none⟩ (.slice (some ⟨g,0,none⟩) N cap))=wz at *;have k0:=(cA wz (.cells #[.slice p1 D q1,.slice (some ⟨g,0,none⟩) N cap] 33 (0,0)) ⟨w.heap.size+1,0,none⟩ hzz).trans Rz0;have k1:=(cA wz (.cells #[.slice p1 D q1,.slice (some ⟨g,0,none⟩) N cap] 33 (0,0)) ⟨w.heap.size+1,1,none⟩ hzz).trans Rz1;have q1':=Oz1.alloc (.cells #[.slice p1 D q1,.slice (some ⟨g,0,none⟩) N cap] 33 (0,0));have q2':=Oz2.alloc (.cells #[.slice p1 D q1,.slice (some ⟨g,0,none⟩) N cap] 33 (0,0));have B':=Bz.alloc (by have:w.heap.size+1<wz.heap.size:=hzz;omega) (.cells #[.slice p1 D q1,.slice (some ⟨g,0,none⟩) N cap] 33 (0,0));generalize (wz.alloc (.cells #[.slice p1 D q1,.slice (some ⟨g,0,none⟩) N cap] 33 (0,0)))=wy at *;exact bodyPost_ret (v:=.tuple #[.agg #[.slice p1 D q1,.slice (some ⟨g,0,none⟩) N cap],.int .i64 0]) (by simp [results,Tryz.results12,go_sem,k0,k1]) rfl (hQ.out _ _ _ q1' q2' o3 B')
theorem Zsl (ad af:Option Addr) (cd cf:Nat) (a:Ar.A) (name text:ByteArray) (dict:Int) (w:World) (h:ArV w ad af a) (hs:SaneA a) (hn:name.size<=140737488355328) (hc:Ar.chk a=0) (hm:Ar.isNm name=true) (hd:Ar.has a.dicts dict=true) (hl:text.size<=512) (hT:Ar.ZK a.files name=false) (h12:a.files.length<12) :
 Calls Tryz.prog 12 #[av ad cd af cf a,.string name,.string text,.int .i64 dict] w fun e w'=>ArSaid w ⟨a.dicts,Ar.putF a.files (Ar.pk a.dicts name text dict)⟩ 0 e w':=by
 have C1:Hid (∀ w',Below w.heap.size w w'->Calls Tryz.prog 24 #[av ad cd af cf a] w' fun e w2=>e=.returned (.int .i64 (Ar.chk a))/\Below w'.heap.size w' w2):=fun w' h9=>Zv ad af cd cf a w' (h.below h9) hs
 have C2:Hid (∀ w',Calls Tryz.prog 25 #[.string name] w' fun e w2=>e=.returned (.bool (Ar.isNm name))/\w2=w'):=fun w'=>Zav name w' hn
 have C3:Hid (∀ w',Calls Tryz.prog 26 #[av ad cd af cf a,.int .i64 dict] w' fun e w2=>e=.returned (.bool (Ar.has a.dicts dict))/\Below w'.heap.size w' w2):=fun w'=>Zaw ad af cd cf a dict w' hs.nd
 have hsr:=Ar.ZaX hc;obtain ⟨m1,m2,m3⟩:=Ar.Zw.1 (Ar.Ze.1 hc).1;have C4:Hid (∀ w',Below w.heap.size w w'->Calls Tryz.prog 27 #[av ad cd af cf a,.string name] w' fun e w2=>e=.returned (.tuple #[.int .i64 (Ar.pos a.files name:Nat),.bool (Ar.ZK a.files name)])/\Below w'.heap.size w' w2):=fun w' h9=>ZbN ad af cd cf a name w' (h.fs.below h9) (by omega) hsr
 have hdz:(Ar.dct a.dicts dict).size<=256:=Ar.ZaL (Ar.Ze.1 hc).1 dict;have C5:Hid (∀ w',Below w.heap.size w w'->Calls Tryz.prog 28 #[av ad cd af cf a,.string name,.string text,.int .i64 dict] w' fun e w2=>e=.returned (.tuple #[fv (Ar.pk a.dicts name text dict),.int .i64 0])/\Below w'.heap.size w' w2):=fun w' h9=>Zby ad af cd cf a name text dict w' (h.ds.below h9) m1 hdz hd hl hn
 have C6:Hid (∀ w',Below w.heap.size w w'->Calls Tryz.prog 29 #[av ad cd af cf a] w' fun e w2=>∃ v1 v2,e=.returned (.agg #[v1,v2])/\ArOwn w'.heap.size w2 v1 v2 a/\Below w'.heap.size w' w2):=fun w' h9=>Zbe ad af cd cf a w' (h.below h9) hs m1 m2
 rw [hc] at C1;rw [hm] at C2;rw [hd] at C3;rw [hT] at C4;have hp:=Ar.ZbE a.files name;have hP:Ar.putF a.files (Ar.pk a.dicts name text dict)=a.files.take (Ar.pos a.files name)++Ar.pk a.dicts name text dict :: a.files.drop (Ar.pos a.files name):=ZoD (f:=Ar.pk a.dicts name text dict) hT
 have hpl:(Ar.putF a.files (Ar.pk a.dicts name text dict)).length=a.files.length+1:=by
  rw [hP];simp only [List.length_append,List.length_take,List.length_cons,List.length_drop];omega
 have CI:Hid (∀ lo w' v2 vb,w'.ownsRow lo 47 5 v2 a.files.length (fcs a.files)->w'.heap[vb]?=some (.cells #[.string name,.int .i64 dict,.int .i64 (text.size:Int),.int .i64 (Ar.sm text),.string (Bk.pak (Ar.dct a.dicts dict) text).1] 47 (0,0))->v2.ownBlock ≠ some vb->lo<=w'.heap.size →
  Calls Tryz.prog 30 #[v2,.int .i64 (Ar.pos a.files name:Nat),.slice (some ⟨vb,0,none⟩) 1 1] w' fun e w2=>∃ g cap,e=.returned (.slice (some ⟨g,0,none⟩) (a.files.length+1) cap)/\w2.ownsRow lo 47 5 (.slice (some ⟨g,0,none⟩) (a.files.length+1) cap) (a.files.length+1) (fcs (Ar.putF a.files (Ar.pk a.dicts name text dict)))/\w'.grownBy w2 v2.ownBlock/\(v2.ownBlock=some g\/w'.heap.size<=g)):=fun lo w' v2 vb h1 h2 h3 h4=>by
  have:=Zlo lo a.files (Ar.pk a.dicts name text dict) v2 (Ar.pos a.files name) vb 47 w' h1 m2 hp h2 h3 h4;unfold ZaW at this;rw [<-hP,hpl] at this;exact this
 have e1:fv (Ar.pk a.dicts name text dict)=.agg #[.string name,.int .i64 dict,.int .i64 (text.size:Int),.int .i64 (Ar.sm text),.string (Bk.pak (Ar.dct a.dicts dict) text).1]:=rfl;rw [e1] at C5
 have hQ:Hid (∀ v1 v2 w',w'.ownsRow w.heap.size 9 1 v1 a.dicts.length (a.dicts.map Value.string)->w'.ownsRow w.heap.size 47 5 v2 (a.files.length+1) (fcs (Ar.putF a.files (Ar.pk a.dicts name text dict)))->(∀ j,v1.ownBlock=some j->v2.ownBlock ≠ some j)->Below w.heap.size w w'->ArSaid w ⟨a.dicts,Ar.putF a.files (Ar.pk a.dicts name text dict)⟩ 0 (.returned (.tuple #[.agg #[v1,v2],.int .i64 0])) w'):=fun v1 v2 w' h1 h2 h3 h4=>⟨v1,v2,rfl,⟨h1,by show w'.ownsRow _ _ _ _ (Ar.putF a.files (Ar.pk a.dicts name text dict)).length _;rw [hpl];exact h2,h3⟩,h4⟩
 generalize ArSaid w ⟨a.dicts,Ar.putF a.files (Ar.pk a.dicts name text dict)⟩ 0=Q at *;generalize fcs (Ar.putF a.files (Ar.pk a.dicts name text dict))=FC at *;clear hP hpl e1
 have HA:Hid (∀ lo w' v1 v2,ArOwn lo w' v1 v2 a->w'.ownsRow lo 9 1 v1 a.dicts.length (a.dicts.map Value.string)/\w'.ownsRow lo 47 5 v2 a.files.length (fcs a.files)/\(∀ j,v1.ownBlock=some j->v2.ownBlock ≠ some j)):=fun lo w' v1 v2 h9=>⟨h9.o1,h9.o2,h9.ne⟩
 generalize fcs a.files=FA at *;generalize (Bk.pak (Ar.dct a.dicts dict) text).1=K at *;generalize Ar.sm text=M at *;generalize Ar.pos a.files name=p at *;unfold av at C1 C3 C4 C5 C6 |-
 clear h hs hn hc hm hd hsr m3 hT;generalize a.dicts.length=D at *;generalize a.files.length=N at *;have hl':¬ (512:Int)<(text.size:Int):=by omega
 have d1:decide ((512:Int)<(text.size:Int))=false:=dF hl';have d2:decide ((N:Int)=12)=false:=dF (by omega);have d3:((N:Int) == 12)=false:=by simp;omega
 have d4:¬ (N:Int)=12:=by omega
 go_enter Tryz.func12,Tryz.ntmps12
 go_wp2_with fail
 refine (C1.out _ (Fr.start w _ _).b).mono ?_;rintro e w1 ⟨rfl,G1⟩;have F1:=(Fr.start w _ _).next G1;clear G1;obtain ⟨b,a0,a1,r0,r1,z0,z1,hz⟩:=id F1;go_wp2_with fail
 refine (C2.out _).mono ?_;rintro e w2 ⟨rfl,rfl⟩;go_wp2_with fail
 refine (C3.out _).mono ?_;rintro e w3 ⟨rfl,G3⟩;clear b a0 a1 r0 r1 z0 z1 hz;have F3:=F1.next G3;clear G3;obtain ⟨b,a0,a1,r0,r1,z0,z1,hz⟩:=id F3;go_wp2_with fail
 refine (C4.out _ F3.b).mono ?_;rintro e w4 ⟨rfl,G4⟩;clear b a0 a1 r0 r1 z0 z1 hz;have F4:=F3.next G4;clear G4;obtain ⟨b,a0,a1,r0,r1,z0,z1,hz⟩:=id F4;go_wp2_with fail
 refine (C5.out _ F4.b).mono ?_;rintro e w5 ⟨rfl,G5⟩;clear b a0 a1 r0 r1 z0 z1 hz;have F5:=F4.next G5;clear G5;obtain ⟨b,a0,a1,r0,r1,z0,z1,hz⟩:=id F5;have hz5:w.heap.size<w5.heap.size:=by omega
 go_wp2_with fail
 have F6:=F5.next ((bR _ _).alloc (nl _) (.cells #[.string name,.int .i64 dict,.int .i64 (text.size:Int),.int .i64 M,.string K] 47 (0,0)));refine (C6.out _ F6.b).mono ?_;rintro e w6 ⟨v1,v2,rfl,O6,G6⟩;have F7:=F6.next G6;have hlt6:w5.heap.size<w6.heap.size:=by have:=G6.size;simp at this;omega
 have hf:=fun j=>(G6.cell (p:=⟨w5.heap.size,j,none⟩) (by simp)).trans (cN _ _ _ j)
 have f0:w6.cell? ⟨w5.heap.size,0,none⟩=some (.string name):=hf 0;have f1:w6.cell? ⟨w5.heap.size,1,none⟩=some (.int .i64 dict):=hf 1;have f2:w6.cell? ⟨w5.heap.size,2,none⟩=some (.int .i64 (text.size:Int)):=hf 2;have f3:w6.cell? ⟨w5.heap.size,3,none⟩=some (.int .i64 M):=hf 3;have f4:w6.cell? ⟨w5.heap.size,4,none⟩=some (.string K):=hf 4;obtain ⟨o1,o2,o3⟩:=HA.out _ _ _ _ O6;have hlo:w.heap.size+1<(w5.alloc (.cells #[.string name,.int .i64 dict,.int .i64 (text.size:Int),.int .i64 M,.string K] 47 (0,0))).heap.size:=F6.hz;have hl0:_<=w6.heap.size:=G6.size;generalize (w5.alloc (.cells #[.string name,.int .i64 dict,.int .i64 (text.size:Int),.int .i64 M,.string K] 47 (0,0))).heap.size=lo at o1 o2 hlo hl0;clear hf G6 F6 O6 HA b a0 a1 r0 r1 z0 z1 hz C1 C2 C3 C4 C5 C6;obtain ⟨b,a0,a1,r0,r1,z0,z1,hz⟩:=id F7;obtain ⟨p1,q1,rfl,_⟩:=Zi o1;clear F1 F3 F4 F5;obtain ⟨p2,q2,rfl,hq2⟩:=Zi o2;have hz6:w.heap.size<w6.heap.size:=by omega
 go_wp2_with fail
 have hsz1:(w6.alloc (.cells #[.slice p1 D q1,.slice p2 N q2] 33 (0,0))).heap.size=w6.heap.size+1:=by simp
 have hown:=fun x o=>(o2.alloc x).alloc o
 obtain ⟨K1,K2⟩:=box2 w6 #[.slice p1 D q1,.slice p2 N q2] #[.string name,.int .i64 dict,.int .i64 (text.size:Int),.int .i64 M,.string K] 33 47
 have hvb:((w6.alloc (.cells #[.slice p1 D q1,.slice p2 N q2] 33 (0,0))).alloc (.cells #[.string name,.int .i64 dict,.int .i64 (text.size:Int),.int .i64 M,.string K] 47 (0,0))).heap[w6.heap.size+1]?=some (.cells #[.string name,.int .i64 dict,.int .i64 (text.size:Int),.int .i64 M,.string K] 47 (0,0)):=by
  rw [<-hsz1];show (Array.push _ _)[_]?=_;rw [Array.getElem?_push_size]
 have hlt2:∀ j,(Value.slice p2 N q2).ownBlock=some j->lo<=j/\j<w6.heap.size:=fun j hj=>o2.lt j hj
 have hlt1:∀ j,(Value.slice p1 D q1).ownBlock=some j->lo<=j/\j<w6.heap.size:=fun j hj=>o1.lt j hj
 have fzc:∀ o,((w6.alloc (.cells #[.slice p1 D q1,.slice p2 N q2] 33 (0,0))).alloc (.cells #[.string name,.int .i64 dict,.int .i64 (text.size:Int),.int .i64 M,.string K] 47 (0,0))).frozen? ⟨w6.heap.size,o,none⟩=false:=fun o=>by
  rw [World.frozen?_alloc_past _ _ _ (by rw [hsz1];omega)];exact fN _ _ _ _ rfl
 have F8:=(F7.next ((bR _ _).alloc (nl _) (.cells #[.slice p1 D q1,.slice p2 N q2] 33 (0,0)))).next ((bR _ _).alloc (nl _) (.cells #[.string name,.int .i64 dict,.int .i64 (text.size:Int),.int .i64 M,.string K] 47 (0,0)));have o1':=(o1.alloc (.cells #[.slice p1 D q1,.slice p2 N q2] 33 (0,0))).alloc (.cells #[.string name,.int .i64 dict,.int .i64 (text.size:Int),.int .i64 M,.string K] 47 (0,0));refine (CI.out lo _ _ _ (hown _ _) hvb (fun e=>by have:=(hlt2 _ e).2;omega) (by simp;omega)).mono ?_;have hsz2:((w6.alloc (.cells #[.slice p1 D q1,.slice p2 N q2] 33 (0,0))).alloc (.cells #[.string name,.int .i64 dict,.int .i64 (text.size:Int),.int .i64 M,.string K] 47 (0,0))).heap.size=w6.heap.size+2:=by simp
 generalize ((w6.alloc (.cells #[.slice p1 D q1,.slice p2 N q2] 33 (0,0))).alloc (.cells #[.string name,.int .i64 dict,.int .i64 (text.size:Int),.int .i64 M,.string K] 47 (0,0)))=wi at *;rintro e w8 ⟨g,cap,rfl,O8,hg8,hat⟩;have nC:some w6.heap.size ≠ (Value.slice p2 N q2).ownBlock:=fun e=>by have:=(hlt2 _ e.symm).2;omega
 have nR:some (w.heap.size+1) ≠ (Value.slice p2 N q2).ownBlock:=fun e=>by have:=(hlt2 _ e.symm).1;omega
 have nR':some w.heap.size ≠ (Value.slice p2 N q2).ownBlock:=fun e=>by have:=(hlt2 _ e.symm).1;omega
 have s0:w8.cell? ⟨w6.heap.size,0,none⟩=some (.slice p1 D q1):=Zd hg8 (K1 0) nC;have s1:w8.cell? ⟨w6.heap.size,1,none⟩=some (.slice p2 N q2):=Zd hg8 (K1 1) nC;have s3:w8.frozen? ⟨w6.heap.size,1,none⟩=false:=Zo hg8 (by omega) (fzc 1) nC;have t0:w8.cell? ⟨w.heap.size+1,0,none⟩=some (.slice none 0 0):=Zd hg8 F8.r0 nR;have t1:w8.cell? ⟨w.heap.size+1,1,none⟩=some (.slice none 0 0):=Zd hg8 F8.r1 nR;have t2:w8.frozen? ⟨w.heap.size+1,0,none⟩=false:=Zo hg8 (by omega) F8.z0 nR;have t3:w8.frozen? ⟨w.heap.size+1,1,none⟩=false:=Zo hg8 (by omega) F8.z1 nR;have b8:Below w.heap.size w w8:=F8.b.grown hg8 (by omega) (fun j hj=>by have:=(hlt2 j hj).1;omega);have hg8s:w6.heap.size+2<=w8.heap.size:=by have:=hg8.size;omega
 have o1v:w8.ownsRow lo 9 1 (.slice p1 D q1) D (a.dicts.map Value.string):=o1'.kept hg8 (by
  cases hv:(Value.slice p1 D q1).ownBlock with
  | none=>exact .inl rfl
  | some j=>exact .inr (fun e=>o3 j hv e.symm))
 have hgC:g ≠ w6.heap.size:=by
  rcases hat with hat | hat
  ·have:=(hlt2 g hat).2;omega
  ·omega
 have sg:=Zc w8 ⟨w6.heap.size,1,none⟩ (.slice (some ⟨g,0,none⟩) (N+1) cap);have O9:=O8.kept sg (.inr (by simp [Value.ownBlock];exact hgC));have o9:=o1v.kept sg (.inr (fun e=>by have:=(hlt1 _ e).2;simp at this))
 have ne9:∀ j,(Value.slice p1 D q1).ownBlock=some j->(Value.slice (some ⟨g,0,none⟩) (N+1) cap).ownBlock ≠ some j:=fun j hj e=>by
  simp [Value.ownBlock] at e;subst e;rcases hat with hat | hat
  ·exact o3 g hj hat
  ·have:=(hlt1 g hj).2;omega
 have b9:=b8.setCell (p:=⟨w6.heap.size,1,none⟩) (by show _<=w6.heap.size;omega) (.slice (some ⟨g,0,none⟩) (N+1) cap);have nRC:some (w.heap.size+1) ≠ some w6.heap.size:=by simp;omega
 obtain ⟨Bz,Oz1,Oz2,Rz0,Rz1⟩:=ZaY b9 o9 O9 hlo (Zd sg t0 nRC) (Zd sg t1 nRC);have hC1:w6.heap.size ≠ w.heap.size+1:=by omega
 have hC2:w6.heap.size<w8.heap.size:=by omega
 have hC3:w.heap.size+1<w8.heap.size:=by omega
 clear F8 F7 o1' hown CI K1 K2 hvb sg O9 o9 b9 O8 hg8 o1v b8 fzc hat;go_wp2_with fail
 generalize ((w8.setCell ⟨w6.heap.size,1,none⟩ (.slice (some ⟨g,0,none⟩) (N+1) cap)).setCell ⟨w.heap.size+1,0,none⟩ (.slice p1 D q1)).setCell ⟨w.heap.size+1,1,none⟩ (.slice (some ⟨g,0,none⟩) (N+1) cap)=wz at *;exact bodyPost_ret (v:=.tuple #[.agg #[.slice p1 D q1,.slice (some ⟨g,0,none⟩) (N+1) cap],.int .i64 0]) (by simp [results,Tryz.results12,go_sem,Rz0,Rz1]) rfl (hQ.out _ _ _ Oz1 Oz2 ne9 Bz)
theorem ZdQ {a:Ar.A} {name text:ByteArray} {dict E:Int} (h:Ar.putE a name text dict=E) (h0:E ≠ 0):Ar.putA a name text dict=Ar.az:=by
 unfold Ar.putA;rw [h,if_neg h0]
theorem ZiE (ad af:Option Addr) (cd cf:Nat) (a:Ar.A) (name text:ByteArray) (dict:Int) (w:World) (h:ArV w ad af a) (hs:SaneA a) (hn:name.size<=140737488355328) (ht:text.size<=140737488355328) :
 Calls Tryz.prog 12 #[av ad cd af cf a,.string name,.string text,.int .i64 dict] w fun e w'=>ArSaid w (Ar.putA a name text dict) (Ar.putE a name text dict) e w':=by
 by_cases hc:Ar.chk a=0
 ·cases hm:Ar.isNm name with
  | false =>
   have e:Ar.putE a name text dict=4:=by unfold Ar.putE;rw [if_neg (fun h9=>h9 hc),if_pos hm]
   rw [ZdQ e (by decide),e];exact Zuj ad af cd cf a name text dict w h hs hn hc hm
  | true =>
   cases hd:Ar.has a.dicts dict with
   | false =>
    have e:Ar.putE a name text dict=3:=by unfold Ar.putE;rw [if_neg (fun h9=>h9 hc),if_neg (by rw [hm];decide),if_pos hd]
    rw [ZdQ e (by decide),e];exact Zpk ad af cd cf a name text dict w h hs hn hc hm hd
   | true =>
    by_cases hl:512<text.size
    ·have e:Ar.putE a name text dict=2:=by unfold Ar.putE;rw [if_neg (fun h9=>h9 hc),if_neg (by rw [hm];decide),if_neg (by rw [hd];decide),if_pos (.inl hl)]
     rw [ZdQ e (by decide),e];exact ZoR ad af cd cf a name text dict w h hs hn ht hc hm hd hl
    ·cases hT:Ar.ZK a.files name with
     | true =>
      have e:Ar.putE a name text dict=0:=by
       unfold Ar.putE;rw [if_neg (fun h9=>h9 hc),if_neg (by rw [hm];decide),if_neg (by rw [hd];decide),if_neg];rintro (h1 | h1)
       ·exact hl h1
       ·rw [hT] at h1;cases h1.1
      have e2:Ar.putA a name text dict=⟨a.dicts,Ar.putF a.files (Ar.pk a.dicts name text dict)⟩:=by unfold Ar.putA;rw [if_pos e]
      rw [e,e2];exact Zmc ad af cd cf a name text dict w h hs hn hc hm hd (by omega) hT
     | false =>
      by_cases h12:a.files.length=12
      ·have e:Ar.putE a name text dict=2:=by unfold Ar.putE;rw [if_neg (fun h9=>h9 hc),if_neg (by rw [hm];decide),if_neg (by rw [hd];decide),if_pos (.inr ⟨hT,h12⟩)]
       rw [ZdQ e (by decide),e];exact Zpg ad af cd cf a name text dict w h hs hn hc hm hd (by omega) hT h12
      ·have e:Ar.putE a name text dict=0:=by
        unfold Ar.putE;rw [if_neg (fun h9=>h9 hc),if_neg (by rw [hm];decide),if_neg (by rw [hd];decide),if_neg];rintro (h1 | h1)
        ·exact hl h1
        ·exact h12 h1.2
       have e2:Ar.putA a name text dict=⟨a.dicts,Ar.putF a.files (Ar.pk a.dicts name text dict)⟩:=by unfold Ar.putA;rw [if_pos e]
       have m2:=(Ar.Zw.1 (Ar.Ze.1 hc).1).2.1;rw [e,e2];exact Zsl ad af cd cf a name text dict w h hs hn hc hm hd (by omega) hT (by omega)
 ·have e:Ar.putE a name text dict=Ar.chk a:=by unfold Ar.putE;rw [if_pos hc]
  rw [ZdQ e hc,e];exact ZqZ ad af cd cf a name text dict w h hs hc
theorem Zdx {P:Program} {ops:Array Oper} {o:Oper} {a:Act} {w:World} {K:Act->World->Prop} {Q:Exit->Act->World->Prop} {E:Prop} (hg:o.guard=none) (s x:Operand) (t tn:TypeId)
 (ho:o.op=.call { callee:=.builtin .append,args:=#[s,x],argTypes:=#[t,tn] }) (vs vx:Value) (hs:a.eval s=vs) (hx:a.eval x=vx)
 {v':Value} {w':World} (hr:(Builtin.append_ #[t,tn] o.type #[vs,vx]).run P w=.ok v' w') (h:K (a.put o.dst v') w'):if Region.wanted o (yielded ops a.tmps)=true then Oper.wp P o a w K Q else E:=by
 rw [if_pos (by simp [Region.wanted,hg])];exact Lib.wp_append_run w s x t tn ho vs vx hs hx v' w' hr h
theorem Zbh {P:Program} (w:World) {ops:Array Oper} {rest:List Oper} {o:Oper} {a:Act} {Q:Exit->Act->World->Prop} (hgd:o.guard=none) (s:Operand) (t:TypeId)
 (ho:o.op=.call { callee:=.builtin .clear,args:=#[s],argTypes:=#[t] }) (vs:Value) (hs:a.eval s=vs)
 {v':Value} {w':World} (hr:(Builtin.clear_ #[t] o.type #[vs]).run P w=.ok v' w') (h:wpList P ops Q rest (a.put o.dst v') w'):wpList P ops Q (o :: rest) a w :=
 wpList_plain hgd fun K hK=>by
  unfold Oper.wp execOp;simp only [ho,resolve,invoke,builtin,Sem.run_bind,Sem.run_pure,Result.andThen_ok,List.map_toArray,List.map_cons,List.map_nil,hs,hr];exact hK _ _ h
def fz5:List Value:=[.string ⟨#[]⟩,.int .i64 0,.int .i64 0,.int .i64 0,.string ⟨#[]⟩]
theorem Zkm (w:World) (ty:TypeId) (g o c:Nat) (cur:Array Value) (t:TypeId) (hg:w.heap[g]?=some (.cells cur t (0,0))) (hfit:o+5<=cur.size) :
 (Builtin.clear_ #[31] ty #[.slice (some ⟨g,o,none⟩) 1 c]).run Tryz.prog w=.ok (.tuple #[]) (w.setRow g (cur.toList.take o++fz5++cur.toList.drop (o+5)).toArray):=by
 obtain ⟨j0,gi,gz0,gz1,gz2⟩:=info_parts (P:=Tryz.prog) (e:=47) (z:=.agg #[.string ⟨#[]⟩,.int .i64 0,.int .i64 0,.int .i64 0,.string ⟨#[]⟩]) (size:=5) (bytes:=56) (by kernel_rfl);have hz:(Builtin.zeroCells (Value.agg #[.string ⟨#[]⟩,.int .i64 0,.int .i64 0,.int .i64 0,.string ⟨#[]⟩]).cells 1).toList=fz5:=by kernel_rfl
 have hst:=run_storeCells_at Tryz.prog g o t fz5 0 cur w hg (by simpa [fz5] using hfit) (one5 _ _ _ _ _);have hl:fz5.length=5:=rfl;simp only [Nat.add_zero,hl] at hst;simp [Builtin.clear_,run_underlying Tryz.underlying31,zeroValue,typeInfo,gi,gz0,hz,hst]
def Zfq (lo:Nat) (fs:List Ar.F) (v2:Value) (w:World) (e:Ending) (w':World):Prop:=∃ g cap,e=.returned (.slice (some ⟨g,0,none⟩) fs.length cap)/\w'.ownsRow lo 47 5 (.slice (some ⟨g,0,none⟩) fs.length cap) fs.length (fcs fs)/\w.grownBy w' v2.ownBlock/\v2.ownBlock=some g
theorem Zpl {l cs:List Value} {m i:Nat} (h1:l.take (m+5)=cs) (h2:m+5<=l.length) (h3:i<=m) :
 let l1:=l.take i++cs.drop (i+5)++l.drop (i+(cs.drop (i+5)).length)
 (l1.take m++fz5++l1.drop (m+5)).length=l.length/\(l1.take m++fz5++l1.drop (m+5)).take m=cs.take i++cs.drop (i+5):=by
 intro l1;have hc:cs.length=m+5:=by rw [<-h1,List.length_take];omega
 have hd:(cs.drop (i+5)).length=m - i:=by rw [List.length_drop,hc];omega
 have e1:l1.length=l.length:=by
  show (l.take i++cs.drop (i+5)++l.drop (i+(cs.drop (i+5)).length)).length=_;simp only [List.length_append,List.length_take,List.length_drop];omega
 have hf:fz5.length=5:=rfl;constructor
 ·simp only [List.length_append,List.length_take,List.length_drop,hf];omega
 ·rw [List.append_assoc,List.take_append_of_le_length (by rw [List.length_take];omega),List.take_take,Nat.min_self];show (l.take i++cs.drop (i+5)++l.drop (i+(cs.drop (i+5)).length)).take m=_;rw [List.take_append_of_le_length (by simp only [List.length_append,List.length_take];omega),List.take_of_length_le (by simp only [List.length_append,List.length_take];omega)]
  congr 1
  rw [<-h1,List.take_take]
  congr 1
  omega
theorem ZkN (lo:Nat) (fs:List Ar.F) (v2:Value) (i:Nat) (w:World) (hown:w.ownsRow lo 47 5 v2 fs.length (fcs fs)) (hn:fs.length<=12) (hi:i<fs.length) :
 Calls Tryz.prog 75 #[v2,.int .i64 (i:Nat),.int .i64 ((i:Int)+1)] w fun e w'=>Zfq lo (fs.take i++fs.drop (i+1)) v2 w e w':=by
 obtain ⟨j0,gi,gz0,gz1,gz2⟩:=info_parts (P:=Tryz.prog) (e:=47) (z:=.agg #[.string ⟨#[]⟩,.int .i64 0,.int .i64 0,.int .i64 0,.string ⟨#[]⟩]) (size:=5) (bytes:=56) (by kernel_rfl);rcases hown.2 with ⟨_,h2⟩ | ⟨g,cap,cur,rfl,h2,hg,h4,h5,h6,htk⟩
 ·omega
 have hcl:(fcs fs).length=fs.length*5:=Zag fs
 obtain ⟨m,hm⟩:∃ m,fs.length=m+1:=⟨fs.length - 1,by omega⟩
 have hdl:((fcs fs).drop (i*5+5)).length=(m - i)*5:=by rw [List.length_drop,hcl];omega
 obtain ⟨cur1,hcur1⟩:∃ cur1:Array Value,cur1=(cur.toList.take (i*5)++(fcs fs).drop (i*5+5)++cur.toList.drop (i*5+((fcs fs).drop (i*5+5)).length)).toArray:=⟨_,rfl⟩
 obtain ⟨cur2,hcur2⟩:∃ cur2:Array Value,cur2=(cur1.toList.take (m*5)++fz5++cur1.toList.drop (m*5+5)).toArray:=⟨_,rfl⟩
 have hl1:cur1.toList=cur.toList.take (i*5)++(fcs fs).drop (i*5+5)++cur.toList.drop (i*5+((fcs fs).drop (i*5+5)).length):=by rw [hcur1]
 have hl2:cur2.toList=cur1.toList.take (m*5)++fz5++cur1.toList.drop (m*5+5):=by rw [hcur2]
 have hcL:cur.toList.length=cap*5:=by simpa using h6
 have h2c:=Zpl (l:=cur.toList) (cs:=fcs fs) (m:=m*5) (i:=i*5) (by rw [<-htk,hm];congr 1;omega) (by rw [hcL];omega) (by omega);simp only at h2c;rw [<-hl1,<-hl2] at h2c
 have hs1:cur1.size=cap*5:=by
  rw [<-Array.length_toList,hl1];simp only [List.length_append,List.length_take,List.length_drop,Array.length_toList,hcl,h6];omega
 have hap:∀ ty sc o,(o=i*5+5\/i=m)->(Builtin.append_ #[31,31] ty #[.slice (some ⟨g,0,none⟩) i cap,.slice (some ⟨g,o,none⟩) (m - i) sc]).run Tryz.prog w.drew=.ok (.slice (some ⟨g,0,none⟩) m cap) (w.drew.setRow g cur1):=fun ty sc o ho=>by
  have:=run_append_room w.drew 31 ty 47 j0 U31 gi g i cap cur hg ⟨g,o,none⟩ (m - i) sc ((fcs fs).drop (i*5+5)) (by rw [gz1,hdl])
   (fun j v hj=>by
    rcases ho with rfl | rfl
    ·rw [Go.WideShapes.add_plain];show w.cell? ⟨g,i*5+5+j,none⟩=some v;rw [ZgA hg,<-Array.getElem?_toList];rw [List.getElem?_drop,<-htk,List.getElem?_take] at hj;split at hj
     ·exact hj
     ·cases hj
    ·rw [List.getElem?_eq_none (by rw [hdl];omega)] at hj;cases hj)
   (fun v hv=>ZeF fs v (List.mem_of_mem_drop hv)) (by omega) (by rw [gz1,hdl];omega)
  rw [gz1,<-hcur1,show i+(m - i)=m by omega] at this;exact this
 have hg1:(w.drew.setRow g cur1).heap[g]?=some (.cells cur1 47 (0,0)):=setRow_heap w.drew g cur cur1 _ _ hg
 have hcr:∀ ty c,(Builtin.clear_ #[31] ty #[.slice (some ⟨g,m*5,none⟩) 1 c]).run Tryz.prog (w.drew.setRow g cur1)=.ok (.tuple #[]) ((w.drew.setRow g cur1).setRow g cur2):=fun ty c=>by
  rw [Zkm _ ty g (m*5) c cur1 _ hg1 (by omega),<-hcur2]
 have hfin:Zfq lo (fs.take i++fs.drop (i+1)) (.slice (some ⟨g,0,none⟩) fs.length cap) w (.returned (.slice (some ⟨g,0,none⟩) m cap)) ((w.drew.setRow g cur1).setRow g cur2):=by
  have hlen:(fs.take i++fs.drop (i+1)).length=m:=by rw [List.length_append,List.length_take,List.length_drop];omega
  refine ⟨g,cap,by rw [hlen],?_,?_,rfl⟩
  ·rw [hlen];refine ⟨by rw [Zag,hlen],.inr ⟨g,cap,cur2,rfl,h2,setRow_heap _ g cur1 cur2 _ _ hg1,by omega,h5,?_,?_⟩⟩
   ·rw [<-h6,<-Array.length_toList,h2c.1,Array.length_toList]
   ·rw [h2c.2,Zy,ZdK,ZdG,show (i+1)*5=i*5+5 by omega]
  ·have a1:=Zak w.drew g cur1;have a2:=Zak (w.drew.setRow g cur1) g cur2
   have a0:w.grownBy w.drew (some g):=⟨rfl,rfl,rfl,nl _,fun _ _ _=>rfl⟩
   exact (a0.trans a1).trans a2
 have hW:i=m->w.drew.setRow g cur1=w.drew:=fun e=>by
  have h0:(fcs fs).drop (i*5+5)=[]:=List.drop_of_length_le (by rw [hcl];omega)
  have h1:cur1=cur:=by
   rw [hcur1,h0];simp
  rw [h1];exact setRow_self w.drew g cur _ _ hg
 rw [hm] at hfin |-
 generalize (Zfq lo (fs.take i++fs.drop (i+1)) (.slice (some ⟨g,0,none⟩) (m+1) cap) w)=Q at *;rw [hm] at hn hi h4;clear hl1 hl2 hcur1 hcur2 h2c htk hcl hs1 hg hg1 hown h6 hcL hdl hm;have hz2:¬ ((i:Int)=(i:Int)+1):=by omega
 have hb3:(i:Int)<=(m:Int):=by omega
 have hb4:(i:Int)+1<=(m:Int)+1:=by omega
 have hb5:(0:Int)<=(i:Int)+1:=by omega
 have htn:((i:Int)+1).toNat=i+1:=by omega
 have hcm:(cap:Int)<=9223372036854775807:=by unfold maxLen at h5;omega
 have hmc:(m:Int)+1<=(cap:Int):=by omega
 have hmi:(m:Int)<=12:=by omega
 have hcm0:¬ cap=m:=by omega
 have hic:i<=cap:=by omega
 have him:i<=m+1:=by omega
 have hmc':m+1<=cap:=by omega
 have hmc2:m<=cap:=by omega
 have him1:i+1<=m+1:=by omega
 by_cases hci:cap=i+1
 ·obtain rfl:i=m:=by omega
  rw [hW rfl] at hcr hfin;rw [hci] at hfin;clear hap hW;have hii:(i:Int)<=(i:Int)+1:=by omega
  go_enter Tryz.func75,Tryz.ntmps75
  go_wp2_with fail
  go_region
  go_wp2_with (first
   | (at_builtin;refine Zbh _ rfl _ 31 rfl _ rfl (hcr _ _) ?_)
   | fail)
  exact hfin
 ·have hap1:=fun ty sc=>hap ty sc ((i+1)*5) (.inl (by omega))
  clear hap hW;go_enter Tryz.func75,Tryz.ntmps75
  go_wp2_with fail
  go_region_law (refine Zdx rfl _ _ 31 31 rfl (.slice (some ⟨g,0,none⟩) i cap) (.slice (some ⟨g,(i+1)*5,none⟩) (m - i) (cap - (i+1))) (by simp [Act.eval,Act.put]) (by simp [Act.eval,Act.put]) (hap1 31 (cap - (i+1))) ?_)
  go_wp2_with (first
   | (at_builtin;refine Zbh _ rfl _ 31 rfl _ rfl (hcr _ _) ?_)
   | fail)
  exact hfin
end Go.Proofs.YtbjbjbpgmojcbacGreat
