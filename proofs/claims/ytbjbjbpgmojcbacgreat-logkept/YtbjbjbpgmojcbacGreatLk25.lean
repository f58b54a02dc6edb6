/- A part of the proof: what it leans on. -/
import Derived.Test.YtbjbjbpgmojcbacGreatLk24
set_option maxRecDepth 4000
set_option maxHeartbeats 4000000
namespace Go.Proofs.YtbjbjbpgmojcbacGreat
open Go.RowKit
theorem ZoP (ad af:Option Addr) (cd cf:Nat) (a:Ar.A) (name:ByteArray) (w:World) (h:ArV w ad af a) (hs:SaneA a) (hc:Ar.chk a ≠ 0) :
 Calls Tryz.prog 45 #[av ad cd af cf a,.string name] w fun e w'=>ArSaid w Ar.az (Ar.chk a) e w':=by
 have C1:Hid (∀ w',Below w.heap.size w w'->Calls Tryz.prog 24 #[av ad cd af cf a] w' fun e w2=>e=.returned (.int .i64 (Ar.chk a))/\Below w'.heap.size w' w2):=fun w' h9=>Zv ad af cd cf a w' (h.below h9) hs
 have hQ:Hid (∀ w',Below w.heap.size w w'->ArSaid w Ar.az (Ar.chk a) (.returned (.tuple #[.agg #[.slice none 0 0,.slice none 0 0],.int .i64 (Ar.chk a)])) w'):=fun w' h9=>Zx h9
 generalize ArSaid w Ar.az (Ar.chk a)=Q at *;unfold av at C1 |-
 generalize Ar.chk a=E at *;generalize a.dicts.length=D at *;generalize a.files.length=N at *;have e1:(E != 0)=true:=by simpa using hc
 have e2:(E == 0)=false:=by simpa using hc
 clear h hs;go_enter Tryz.func45,Tryz.ntmps45
 go_wp2_with fail
 refine (C1.out _ (Fr.start w _ _).b).mono ?_;rintro e w1 ⟨rfl,G1⟩;have F1:=(Fr.start w _ _).next G1;clear G1;obtain ⟨b,a0,a1,r0,r1,z0,z1,hz⟩:=id F1;go_wp2_with fail
 rw [F1.zero];exact bodyPost_ret (v:=.tuple #[.agg #[.slice none 0 0,.slice none 0 0],.int .i64 E]) (by simp [results,Tryz.results45,go_sem,F1.r0,F1.r1]) rfl (hQ.out _ F1.b)
theorem ZmC (ad af:Option Addr) (cd cf:Nat) (a:Ar.A) (name:ByteArray) (w:World) (h:ArV w ad af a) (hs:SaneA a) (hc:Ar.chk a=0) (hT:Ar.ZK a.files name=false) :
 Calls Tryz.prog 45 #[av ad cd af cf a,.string name] w fun e w'=>ArSaid w Ar.az 5 e w':=by
 have C1:Hid (∀ w',Below w.heap.size w w'->Calls Tryz.prog 24 #[av ad cd af cf a] w' fun e w2=>e=.returned (.int .i64 (Ar.chk a))/\Below w'.heap.size w' w2):=fun w' h9=>Zv ad af cd cf a w' (h.below h9) hs
 have hsr:=Ar.ZaX hc;obtain ⟨m1,m2,m3⟩:=Ar.Zw.1 (Ar.Ze.1 hc).1;have C4:Hid (∀ w',Below w.heap.size w w'->Calls Tryz.prog 27 #[av ad cd af cf a,.string name] w' fun e w2=>e=.returned (.tuple #[.int .i64 (Ar.pos a.files name:Nat),.bool (Ar.ZK a.files name)])/\Below w'.heap.size w' w2):=fun w' h9=>ZbN ad af cd cf a name w' (h.fs.below h9) (by omega) hsr
 have hQ:Hid (∀ w',Below w.heap.size w w'->ArSaid w Ar.az 5 (.returned (.tuple #[.agg #[.slice none 0 0,.slice none 0 0],.int .i64 5])) w'):=fun w' h9=>Zx h9
 generalize ArSaid w Ar.az 5=Q at *;rw [hc] at C1;rw [hT] at C4;have hp:=Ar.ZbE a.files name;generalize Ar.pos a.files name=p at *;unfold av at C1 C4 |-
 clear h hs hc hsr m3 hT;generalize a.dicts.length=D at *;generalize a.files.length=N at *;go_enter Tryz.func45,Tryz.ntmps45
 go_wp2_with fail
 refine (C1.out _ (Fr.start w _ _).b).mono ?_;rintro e w1 ⟨rfl,G1⟩;have F1:=(Fr.start w _ _).next G1;clear G1;obtain ⟨b,a0,a1,r0,r1,z0,z1,hz⟩:=id F1;go_wp2_with fail
 refine (C4.out _ F1.b).mono ?_;rintro e w4 ⟨rfl,G4⟩;clear b a0 a1 r0 r1 z0 z1 hz;have F4:=F1.next G4;clear G4;obtain ⟨b,a0,a1,r0,r1,z0,z1,hz⟩:=id F4;go_wp2_with fail
 rw [F4.zero];exact bodyPost_ret (v:=.tuple #[.agg #[.slice none 0 0,.slice none 0 0],.int .i64 5]) (by simp [results,Tryz.results45,go_sem,F4.r0,F4.r1]) rfl (hQ.out _ F4.b)
theorem ZkQ (ad af:Option Addr) (cd cf:Nat) (a:Ar.A) (name:ByteArray) (w:World) (h:ArV w ad af a) (hs:SaneA a) (hc:Ar.chk a=0) (hT:Ar.ZK a.files name=true) :
 Calls Tryz.prog 45 #[av ad cd af cf a,.string name] w fun e w'=>ArSaid w ⟨a.dicts,a.files.take (Ar.pos a.files name)++a.files.drop (Ar.pos a.files name+1)⟩ 0 e w':=by
 have C1:Hid (∀ w',Below w.heap.size w w'->Calls Tryz.prog 24 #[av ad cd af cf a] w' fun e w2=>e=.returned (.int .i64 (Ar.chk a))/\Below w'.heap.size w' w2):=fun w' h9=>Zv ad af cd cf a w' (h.below h9) hs
 have hsr:=Ar.ZaX hc;obtain ⟨m1,m2,m3⟩:=Ar.Zw.1 (Ar.Ze.1 hc).1;have C4:Hid (∀ w',Below w.heap.size w w'->Calls Tryz.prog 27 #[av ad cd af cf a,.string name] w' fun e w2=>e=.returned (.tuple #[.int .i64 (Ar.pos a.files name:Nat),.bool (Ar.ZK a.files name)])/\Below w'.heap.size w' w2):=fun w' h9=>ZbN ad af cd cf a name w' (h.fs.below h9) (by omega) hsr
 have C6:Hid (∀ w',Below w.heap.size w w'->Calls Tryz.prog 29 #[av ad cd af cf a] w' fun e w2=>∃ v1 v2,e=.returned (.agg #[v1,v2])/\ArOwn w'.heap.size w2 v1 v2 a/\Below w'.heap.size w' w2):=fun w' h9=>Zbe ad af cd cf a w' (h.below h9) hs m1 m2
 rw [hc] at C1;rw [hT] at C4;have hp:=(Ar.ZX hT).1
 obtain ⟨n,hn⟩:∃ n,a.files.length=n+1:=⟨a.files.length - 1,by omega⟩
 have hpl:(a.files.take (Ar.pos a.files name)++a.files.drop (Ar.pos a.files name+1)).length=n:=by
  simp only [List.length_append,List.length_take,List.length_drop];omega
 have CI:Hid (∀ lo w' v2,w'.ownsRow lo 47 5 v2 (n+1) (fcs a.files) →
  Calls Tryz.prog 75 #[v2,.int .i64 (Ar.pos a.files name:Nat),.int .i64 ((Ar.pos a.files name:Int)+1)] w' fun e w2=>∃ g cap,e=.returned (.slice (some ⟨g,0,none⟩) n cap)/\w2.ownsRow lo 47 5 (.slice (some ⟨g,0,none⟩) n cap) n (fcs (a.files.take (Ar.pos a.files name)++a.files.drop (Ar.pos a.files name+1)))/\w'.grownBy w2 v2.ownBlock/\v2.ownBlock=some g):=fun lo w' v2 h1=>by
  have:=ZkN lo a.files v2 (Ar.pos a.files name) w' (by rw [hn];exact h1) m2 hp;unfold Zfq at this;rw [hpl] at this;exact this
 have hQ:Hid (∀ v1 v2 w',w'.ownsRow w.heap.size 9 1 v1 a.dicts.length (a.dicts.map Value.string)->w'.ownsRow w.heap.size 47 5 v2 n (fcs (a.files.take (Ar.pos a.files name)++a.files.drop (Ar.pos a.files name+1)))->(∀ j,v1.ownBlock=some j->v2.ownBlock ≠ some j)->Below w.heap.size w w'->ArSaid w ⟨a.dicts,a.files.take (Ar.pos a.files name)++a.files.drop (Ar.pos a.files name+1)⟩ 0 (.returned (.tuple #[.agg #[v1,v2],.int .i64 0])) w'):=fun v1 v2 w' h1 h2 h3 h4=>⟨v1,v2,rfl,⟨h1,by show w'.ownsRow _ _ _ _ (a.files.take (Ar.pos a.files name)++a.files.drop (Ar.pos a.files name+1)).length _;rw [hpl];exact h2,h3⟩,h4⟩
 generalize ArSaid w ⟨a.dicts,a.files.take (Ar.pos a.files name)++a.files.drop (Ar.pos a.files name+1)⟩ 0=Q at *;generalize fcs (a.files.take (Ar.pos a.files name)++a.files.drop (Ar.pos a.files name+1))=FC at *
 have HA:Hid (∀ lo w' v1 v2,ArOwn lo w' v1 v2 a->w'.ownsRow lo 9 1 v1 a.dicts.length (a.dicts.map Value.string)/\w'.ownsRow lo 47 5 v2 a.files.length (fcs a.files)/\(∀ j,v1.ownBlock=some j->v2.ownBlock ≠ some j)):=fun lo w' v1 v2 h9=>⟨h9.o1,h9.o2,h9.ne⟩
 clear hpl;generalize fcs a.files=FA at *;generalize Ar.pos a.files name=p at *;unfold av at C1 C4 C6 |-
 clear h hs hc hsr m3 hT;rw [hn] at C1 C4 C6 HA hp m2 |-
 clear hn;generalize a.dicts.length=D at *;have hpi:(p:Int)<=12:=by omega
 go_enter Tryz.func45,Tryz.ntmps45
 go_wp2_with fail
 refine (C1.out _ (Fr.start w _ _).b).mono ?_;rintro e w1 ⟨rfl,G1⟩;have F1:=(Fr.start w _ _).next G1;clear G1;obtain ⟨b,a0,a1,r0,r1,z0,z1,hz⟩:=id F1;go_wp2_with fail
 refine (C4.out _ F1.b).mono ?_;rintro e w4 ⟨rfl,G4⟩;clear b a0 a1 r0 r1 z0 z1 hz;have F4:=F1.next G4;clear G4;obtain ⟨b,a0,a1,r0,r1,z0,z1,hz⟩:=id F4;go_wp2_with fail
 refine (C6.out _ F4.b).mono ?_;rintro e w6 ⟨v1,v2,rfl,O6,G6⟩;have F7:=F4.next G6;obtain ⟨o1,o2,o3⟩:=HA.out _ _ _ _ O6;have hlo:w.heap.size+1<w4.heap.size:=F4.hz;have hl0:w4.heap.size<=w6.heap.size:=G6.size;generalize w4.heap.size=lo at o1 o2 hlo hl0;clear G6 O6 HA b a0 a1 r0 r1 z0 z1 hz C1 C4 C6;obtain ⟨b,a0,a1,r0,r1,z0,z1,hz⟩:=id F7;obtain ⟨p1,q1,rfl,_⟩:=Zi o1;clear F1 F4;obtain ⟨p2,q2,rfl,hq2⟩:=Zi o2;have hz6:w.heap.size<w6.heap.size:=by omega
 go_wp2_with fail
 have hown:=o2.alloc (.cells #[.slice p1 D q1,.slice p2 (n+1) q2] 33 (0,0));have K1:=fun i=>cN w6 #[.slice p1 D q1,.slice p2 (n+1) q2] 33 i
 have hlt2:∀ j,(Value.slice p2 (n+1) q2).ownBlock=some j->lo<=j/\j<w6.heap.size:=fun j hj=>o2.lt j hj
 have hlt1:∀ j,(Value.slice p1 D q1).ownBlock=some j->lo<=j/\j<w6.heap.size:=fun j hj=>o1.lt j hj
 have fzc:∀ o,(w6.alloc (.cells #[.slice p1 D q1,.slice p2 (n+1) q2] 33 (0,0))).frozen? ⟨w6.heap.size,o,none⟩=false:=fun o=>fN _ _ _ _ rfl
 have F8:=F7.next ((bR _ _).alloc (nl _) (.cells #[.slice p1 D q1,.slice p2 (n+1) q2] 33 (0,0)));have o1':=o1.alloc (.cells #[.slice p1 D q1,.slice p2 (n+1) q2] 33 (0,0));refine (CI.out lo _ _ hown).mono ?_;have hsz2:(w6.alloc (.cells #[.slice p1 D q1,.slice p2 (n+1) q2] 33 (0,0))).heap.size=w6.heap.size+1:=by simp
 generalize (w6.alloc (.cells #[.slice p1 D q1,.slice p2 (n+1) q2] 33 (0,0)))=wi at *;rintro e w8 ⟨g,cap,rfl,O8,hg8,hat⟩;have nC:some w6.heap.size ≠ (Value.slice p2 (n+1) q2).ownBlock:=fun e=>by have:=(hlt2 _ e.symm).2;omega
 have nR:some (w.heap.size+1) ≠ (Value.slice p2 (n+1) q2).ownBlock:=fun e=>by have:=(hlt2 _ e.symm).1;omega
 have s0:w8.cell? ⟨w6.heap.size,0,none⟩=some (.slice p1 D q1):=Zd hg8 (K1 0) nC;have s1:w8.cell? ⟨w6.heap.size,1,none⟩=some (.slice p2 (n+1) q2):=Zd hg8 (K1 1) nC;have s3:w8.frozen? ⟨w6.heap.size,1,none⟩=false:=Zo hg8 (by omega) (fzc 1) nC;have t0:w8.cell? ⟨w.heap.size+1,0,none⟩=some (.slice none 0 0):=Zd hg8 F8.r0 nR;have t1:w8.cell? ⟨w.heap.size+1,1,none⟩=some (.slice none 0 0):=Zd hg8 F8.r1 nR;have t2:w8.frozen? ⟨w.heap.size+1,0,none⟩=false:=Zo hg8 (by omega) F8.z0 nR;have t3:w8.frozen? ⟨w.heap.size+1,1,none⟩=false:=Zo hg8 (by omega) F8.z1 nR;have b8:Below w.heap.size w w8:=F8.b.grown hg8 (by omega) (fun j hj=>by have:=(hlt2 j hj).1;omega);have hg8s:w6.heap.size+1<=w8.heap.size:=by have:=hg8.size;omega
 have o1v:w8.ownsRow lo 9 1 (.slice p1 D q1) D (a.dicts.map Value.string):=o1'.kept hg8 (by
  cases hv:(Value.slice p1 D q1).ownBlock with
  | none=>exact .inl rfl
  | some j=>exact .inr (fun e=>o3 j hv e.symm))
 have hgC:g ≠ w6.heap.size:=by have:=(hlt2 g hat).2;omega
 have sg:=Zc w8 ⟨w6.heap.size,1,none⟩ (.slice (some ⟨g,0,none⟩) n cap);have O9:=O8.kept sg (.inr (by simp [Value.ownBlock];exact hgC));have o9:=o1v.kept sg (.inr (fun e=>by have:=(hlt1 _ e).2;simp at this))
 have ne9:∀ j,(Value.slice p1 D q1).ownBlock=some j->(Value.slice (some ⟨g,0,none⟩) n cap).ownBlock ≠ some j:=fun j hj e=>by
  simp [Value.ownBlock] at e;subst e;exact o3 g hj hat
 have b9:=b8.setCell (p:=⟨w6.heap.size,1,none⟩) (by show _<=w6.heap.size;omega) (.slice (some ⟨g,0,none⟩) n cap);have nRC:some (w.heap.size+1) ≠ some w6.heap.size:=by simp;omega
 obtain ⟨Bz,Oz1,Oz2,Rz0,Rz1⟩:=ZaY b9 o9 O9 hlo (Zd sg t0 nRC) (Zd sg t1 nRC);have hC1:w6.heap.size ≠ w.heap.size+1:=by omega
 have hC2:w6.heap.size<w8.heap.size:=by omega
 have hC3:w.heap.size+1<w8.heap.size:=by omega
 clear F8 F7 o1' hown CI K1 sg O9 o9 b9 O8 hg8 o1v b8 fzc hat;go_wp2_with fail
 generalize ((w8.setCell ⟨w6.heap.size,1,none⟩ (.slice (some ⟨g,0,none⟩) n cap)).setCell ⟨w.heap.size+1,0,none⟩ (.slice p1 D q1)).setCell ⟨w.heap.size+1,1,none⟩ (.slice (some ⟨g,0,none⟩) n cap)=wz at *;exact bodyPost_ret (v:=.tuple #[.agg #[.slice p1 D q1,.slice (some ⟨g,0,none⟩) n cap],.int .i64 0]) (by simp [results,Tryz.results45,go_sem,Rz0,Rz1]) rfl (hQ.out _ _ _ Oz1 Oz2 ne9 Bz)
theorem Zhb (ad af:Option Addr) (cd cf:Nat) (a:Ar.A) (name:ByteArray) (w:World) (h:ArV w ad af a) (hs:SaneA a) :
 Calls Tryz.prog 45 #[av ad cd af cf a,.string name] w fun e w'=>ArSaid w (Ar.Zbw a name) (Ar.getE a name) e w':=by
 by_cases hc:Ar.chk a=0
 ·cases hT:Ar.ZK a.files name with
  | false =>
   have e:Ar.getE a name=5:=by unfold Ar.getE;rw [if_neg (fun h9=>h9 hc),if_neg (by rw [hT];decide)]
   have e2:Ar.Zbw a name=Ar.az:=by unfold Ar.Zbw;rw [e,if_neg (by decide)]
   rw [e2,e];exact ZmC ad af cd cf a name w h hs hc hT
  | true =>
   have e:Ar.getE a name=0:=by unfold Ar.getE;rw [if_neg (fun h9=>h9 hc),if_pos hT]
   have e2:Ar.Zbw a name=⟨a.dicts,a.files.take (Ar.pos a.files name)++a.files.drop (Ar.pos a.files name+1)⟩:=by unfold Ar.Zbw;rw [if_pos e]
   rw [e,e2];exact ZkQ ad af cd cf a name w h hs hc hT
 ·have e:Ar.getE a name=Ar.chk a:=by unfold Ar.getE;rw [if_pos hc]
  have e2:Ar.Zbw a name=Ar.az:=by unfold Ar.Zbw;rw [e,if_neg hc]
  rw [e2,e];exact ZoP ad af cd cf a name w h hs hc
namespace Ar
theorem ZjV {a:A} {n:Int}:used a n=true ↔ ∃ k,k<a.files.length/\(fa a.files k).dict=n:=by
 unfold used;rw [List.any_eq_true];constructor
 ·rintro ⟨f,hf,hd⟩;obtain ⟨k,hk,rfl⟩:=List.getElem_of_mem hf;exact ⟨k,hk,by simpa [fa,hk] using hd⟩
 ·rintro ⟨k,hk,hd⟩;exact ⟨a.files[k],gM hk,by simpa [fa,hk] using hd⟩
theorem ZrE {a:A} {n:Int} (h:∀ k,k<a.files.length->(fa a.files k).dict ≠ n):used a n=false:=by
 cases hu:used a n with
 | false=>rfl
 | true=>obtain ⟨k,h1,h2⟩:=ZjV.1 hu;exact absurd h2 (h k h1)
end Ar
theorem Zhk (f:Ar.F) (c i:Nat) (w:World) (hc:w.cell? ⟨c,0,none⟩=some (.int .i64 i)) (hi:i<=4) :
 Calls Tryz.prog 33 #[fv f,.pointer (some ⟨c,0,none⟩)] w fun e w'=>e=.returned (.bool (decide (f.dict=((i+1:Nat):Int))))/\Below w.heap.size w w':=by
 have hlt:c<w.heap.size:=cL w _ hc;unfold fv;have hb:=fun o=>(bR w.heap.size w).alloc (nl _) o
 have hii:(i:Int)<=4:=by omega
 rw [show ((i+1:Nat):Int)=(i:Int)+1 by omega];generalize f.name=f0 at *;generalize f.dict=f1 at *;generalize f.size=f2 at *;generalize f.sum=f3 at *;generalize f.blk=f4 at *
 obtain ⟨r,hr⟩:∃ r,decide (f1=(i:Int)+1)=r:=⟨_,rfl⟩
 rw [hr];have hr2:(f1 == (i:Int)+1)=r:=by rw [<-hr];rfl
 go_enter Tryz.func33,Tryz.ntmps33
 go_wp2_with fail
 go_ret
 exact ⟨rfl,hb _⟩
theorem ZfP (af:Option Addr) (cf:Nat) (a:Ar.A) (c i:Nat) (w:World) (h:FlSl w af a.files) (hn:a.files.length<=12) (hc:w.cell? ⟨c,0,none⟩=some (.int .i64 i)) (hi:i<=4) :
 Calls Tryz.prog 68 #[.slice af a.files.length cf,.func (.func 33) #[] #[.pointer (some ⟨c,0,none⟩)]] w fun e w'=>∃ r:Int,e=.returned (.int .i64 r)/\decide (0<=r)=Ar.used a ((i+1:Nat):Int)/\Below w.heap.size w w':=by
 have hlt:c<w.heap.size:=cL w _ hc;have HFl:Hid (∀ w',Below w.heap.size w w'->∀ k,k<a.files.length->∃ b off,af=some ⟨b,off,none⟩/\b<w'.heap.size/\FlC w' b (off+k*5) (Ar.fa a.files k)):=fun w' h9 k hk=>(h.below h9).at hk
 have HC:Hid (∀ w',Below w.heap.size w w'->∀ k,Calls Tryz.prog 33 #[fv (Ar.fa a.files k),.pointer (some ⟨c,0,none⟩)] w' fun e w2=>e=.returned (.bool (decide ((Ar.fa a.files k).dict=((i+1:Nat):Int))))/\Below w'.heap.size w' w2):=fun w' h9 k=>Zhk _ c i w' ((h9.cell (p:=⟨c,0,none⟩) hlt).trans hc) hi
 have HY:Hid (∀ k,k<a.files.length->(Ar.fa a.files k).dict=((i+1:Nat):Int)->Ar.used a ((i+1:Nat):Int)=true):=fun k h1 h2=>Ar.ZjV.2 ⟨k,h1,h2⟩
 have HN:Hid ((∀ k,k<a.files.length->(Ar.fa a.files k).dict ≠ ((i+1:Nat):Int))->Ar.used a ((i+1:Nat):Int)=false):=fun h9=>Ar.ZrE h9
 unfold fv at HC;generalize Ar.used a ((i+1:Nat):Int)=U at *;generalize ((i+1:Nat):Int)=n at *;clear h hc;generalize a.files.length=N at *;have hNi:(N:Int)<=12:=by omega
 go_enter Tryz.func68,Tryz.ntmps68
 go_wp2_with fail
 go_loopw [8] (fun i wr=>∃ k:Nat,k<=N/\i=.int .i64 k/\Hid (∀ j,j<k->(Ar.fa a.files j).dict ≠ n)/\Below w.heap.size w wr) (fun i _=>N - (intOf i).toNat)
 case atStart=>exact ⟨0,by omega,rfl,fun j hj=>by omega,bR _ _⟩
 case round =>
  obtain ⟨k,hk2,rfl,HK,B1⟩:=hrel;by_cases hlt:k<N
  ·have d1:decide ((k:Int)<(N:Int))=true:=by simp;omega
   have d1':decide (k<N)=true:=by simp;omega
   have hki:(k:Int)<(N:Int):=by omega
   obtain ⟨b,off,rfl,hbl,hcell⟩:=HFl.out wr B1 k hlt;obtain ⟨c0,c1,c2,c3,c4⟩:=hcell;have C:=HC.out wr B1 k;by_cases hd:(Ar.fa a.files k).dict=n
   ·have hU:=HY.out k hlt hd;rw [decide_eq_true hd] at C;clear hd HY HN HK;generalize (Ar.fa a.files k).name=f0 at *;generalize (Ar.fa a.files k).dict=f1 at *;generalize (Ar.fa a.files k).size=f2 at *;generalize (Ar.fa a.files k).sum=f3 at *;generalize (Ar.fa a.files k).blk=f4 at *;have HU:Hid (U=true):=hU;clear hU;go_wp2_with fail
    refine C.mono ?_;rintro e w2 ⟨rfl,G⟩;go_wp2_with fail
    go_ret
    exact ⟨_,rfl,by rw [HU.out];exact zdT (by omega),bch B1 G (nl _)⟩
   ·have HK2:Hid (∀ j,j<k+1->(Ar.fa a.files j).dict ≠ n):=fun j hj=>by
     by_cases e:j=k
     ·subst e;exact hd
     ·exact HK.out j (by omega)
    rw [decide_eq_false hd] at C;clear hd HY HN HK;generalize hf0:(Ar.fa a.files k).name=f0 at *;generalize hf1:(Ar.fa a.files k).dict=f1 at C c1;generalize (Ar.fa a.files k).size=f2 at *;generalize (Ar.fa a.files k).sum=f3 at *;generalize (Ar.fa a.files k).blk=f4 at *;clear hf0 hf1;go_wp2_with fail
    refine C.mono ?_;rintro e w2 ⟨rfl,G⟩;have B2:=bch B1 G (nl _);go_wp2_with fail
    go_roundw
    case rel=>exact ⟨k+1,by omega,by go_num,HK2,B2⟩
    case measure=>simp [intOf];omega
  ·obtain rfl:k=N:=by omega
   have d1:decide ((k:Int)<(k:Int))=false:=by simp
   have HU:Hid (U=false):=HN.out HK.out;clear HN HK HY;go_wp2_with fail
   go_ret
   exact ⟨_,rfl,by rw [HU.out];rfl,B1⟩
theorem Ziz (af:Option Addr) (cf:Nat) (a:Ar.A) (c i:Nat) (w:World) (h:FlSl w af a.files) (hn:a.files.length<=12) (hc:w.cell? ⟨c,0,none⟩=some (.int .i64 i)) (hi:i<=4) :
 Calls Tryz.prog 34 #[.slice af a.files.length cf,.func (.func 33) #[] #[.pointer (some ⟨c,0,none⟩)]] w fun e w'=>e=.returned (.bool (Ar.used a ((i+1:Nat):Int)))/\Below w.heap.size w w':=by
 have c1:=ZfP af cf a c i w h hn hc hi;generalize Ar.used a ((i+1:Nat):Int)=U at *;generalize a.files.length=N at *;clear h hc;go_enter Tryz.func34,Tryz.ntmps34
 go_wp2_with fail
 refine c1.mono ?_;rintro e w1 ⟨r,rfl,hr,G⟩;go_wp2_with fail
 go_ret
 exact ⟨by rw [<-hr];rfl,G⟩
structure CpS (w0 wr:World) (C lo:Nat) (v1 v2:Value) (n1 n2:Nat) (xs1 xs2:List Value):Prop where
 c0:wr.cell? ⟨C,0,none⟩=some v1
 c1:wr.cell? ⟨C,1,none⟩=some v2
 f0:wr.frozen? ⟨C,0,none⟩=false
 f1:wr.frozen? ⟨C,1,none⟩=false
 o1:wr.ownsRow lo 9 1 v1 n1 xs1
 o2:wr.ownsRow lo 47 5 v2 n2 xs2
 ne:∀ j,v1.ownBlock=some j->v2.ownBlock ≠ some j
 a1:v1.ownBlock ≠ some C
 a2:v2.ownBlock ≠ some C
 hC:lo<=C
 hb:C<wr.heap.size
 bel:Below lo w0 wr
theorem CpS.below {w0 wr w':World} {C lo:Nat} {v1 v2:Value} {n1 n2:Nat} {xs1 xs2:List Value} (h:CpS w0 wr C lo v1 v2 n1 n2 xs1 xs2) (hb:Below wr.heap.size wr w'):CpS w0 w' C lo v1 v2 n1 n2 xs1 xs2:=by
 have hB:=h.hb;have hl:=h.hC
 exact ⟨(hb.cell (p:=⟨C,0,none⟩) hB).trans h.c0,(hb.cell (p:=⟨C,1,none⟩) hB).trans h.c1,(hb.frozen (p:=⟨C,0,none⟩) hB).trans h.f0,(hb.frozen (p:=⟨C,1,none⟩) hB).trans h.f1,
  Zj h.o1 hb,Zj h.o2 hb,h.ne,h.a1,h.a2,h.hC,nT hB hb.size,h.bel.trans (hb.mono (by omega))⟩
theorem CpS.put1 {w0 wr w2:World} {C lo g cap n1 m n2:Nat} {v1 v2:Value} {xs1 ys xs2:List Value} {o:Obj} (h:CpS w0 wr C lo v1 v2 n1 n2 xs1 xs2) (hg:(wr.alloc o).grownBy w2 v1.ownBlock)
 (ho:w2.ownsRow lo 9 1 (.slice (some ⟨g,0,none⟩) m cap) m ys) (hl:v1.ownBlock=some g\/g=(wr.alloc o).heap.size) :
 ((w2.cell? ⟨C,0,none⟩=some v1/\w2.frozen? ⟨C,0,none⟩=false)/\CpS w0 (w2.setCell ⟨C,0,none⟩ (.slice (some ⟨g,0,none⟩) m cap)) C lo (.slice (some ⟨g,0,none⟩) m cap) v2 m n2 ys xs2) ∧
 ∀ c v,wr.cell? ⟨c,0,none⟩=some v->c ≠ C->v1.ownBlock ≠ some c->(w2.setCell ⟨C,0,none⟩ (.slice (some ⟨g,0,none⟩) m cap)).cell? ⟨c,0,none⟩=some v:=by
 have hB:=h.hb;have hlC:=h.hC;have hsz:(wr.alloc o).heap.size=wr.heap.size+1:=by simp
 have ha:=h.below ((bR _ _).alloc (nl _) o);have n0:some C ≠ v1.ownBlock:=h.a1.symm;have k0:=Zd hg ha.c0 n0;have k1:=Zd hg ha.c1 n0;have q0:=Zo hg (by omega) ha.f0 n0;have q1:=Zo hg (by omega) ha.f1 n0;have hsg:=Zc w2 ⟨C,0,none⟩ (.slice (some ⟨g,0,none⟩) m cap);have hz:(wr.alloc o).heap.size<=w2.heap.size:=hg.size
 have hgC:g ≠ C:=by
  rcases hl with hl | hl
  ·rintro rfl;exact h.a1 hl
  ·omega
 refine ⟨⟨⟨k0,q0⟩,cS _ _ _ k0,?_,by rw [World.frozen?_setCell];exact q0,by rw [World.frozen?_setCell];exact q1,ho.kept hsg (.inr (by simp [Value.ownBlock];exact hgC)),?_,?_,by simp [Value.ownBlock];exact hgC,h.a2,hlC,?_,?_⟩,?_⟩
 ·exact (cO w2 _ _ _ (by intro e;have:=congrArg Addr.off e;simp at this)).trans k1
 ·refine (ha.o2.kept hg ?_).kept hsg (.inr h.a2)
  cases hv:v2.ownBlock with
  | none=>exact .inl rfl
  | some j=>exact .inr (fun e=>h.ne j e.symm hv)
 ·intro j hj e;simp [Value.ownBlock] at hj;subst hj;rcases hl with hl | hl
  ·exact h.ne g hl e
  ·have:=(h.o2.lt g e).2;omega
 ·have:=hsg.size;omega
 ·exact ((h.bel.alloc (by omega) o).grown hg (by omega) (fun j hj=>(h.o1.lt j hj).1)).setCell hlC _
 ·intro c v hc hcC hcv;have hcl:=cL wr _ hc;exact Zd hsg (Zd hg ((cA wr o _ hcl).trans hc) (fun e=>hcv e.symm)) (by simp;exact hcC)
theorem ZpN {w:World} {lo g cap i:Nat} {fs:List Ar.F} (d:Int) (h:w.ownsRow lo 47 5 (.slice (some ⟨g,0,none⟩) fs.length cap) fs.length (fcs fs)) (hi:i<fs.length) :
 (w.setCell ⟨g,i*5+1,none⟩ (.int .i64 d)).ownsRow lo 47 5 (.slice (some ⟨g,0,none⟩) fs.length cap) fs.length (fcs (fs.take i++{ Ar.fa fs i with dict:=d } :: fs.drop (i+1)))/\w.cell? ⟨g,i*5+1,none⟩=some (.int .i64 (Ar.fa fs i).dict)/\w.frozen? ⟨g,i*5+1,none⟩=false:=by
 have hcl:=Zag fs;rcases h.2 with ⟨h1,h2⟩ | ⟨g',cap',cur,h1,h2,h3,h4,h5,h6,h7⟩
 ·omega
 simp only [Value.slice.injEq,Option.some.injEq,Addr.mk.injEq] at h1;obtain ⟨⟨rfl,_⟩,_,rfl⟩:=h1
 have hat:∀ j,j<5->w.cell? ⟨g,i*5+j,none⟩=(fc (Ar.fa fs i))[j]?:=fun j hj=>by
  rw [ZgA h3,<-Array.getElem?_toList];have e1:cur.toList[i*5+j]?=(fcs fs)[i*5+j]?:=by rw [<-h7,List.getElem?_take,if_pos (by omega)]
  have e2:fs=fs.take i++Ar.fa fs i :: fs.drop (i+1):=by
   have e3:Ar.fa fs i=fs[i]:=by simp [Ar.fa,hi]
   rw [e3,<-List.drop_eq_getElem_cons hi,List.take_append_drop]
  rw [e1,e2,Zy,List.getElem?_append_right (by rw [Zag,List.length_take];omega),Zag,List.length_take,show i*5+j - min i fs.length*5=j by omega,fcs,List.getElem?_append_left (by simp;omega),<-e2];rfl
 have k0:w.cell? ⟨g,i*5,none⟩=some (.string (Ar.fa fs i).name):=hat 0 (by omega);have k1:w.cell? ⟨g,i*5+1,none⟩=some (.int .i64 (Ar.fa fs i).dict):=hat 1 (by omega);have k2:w.cell? ⟨g,i*5+2,none⟩=some (.int .i64 (Ar.fa fs i).size):=hat 2 (by omega);have k3:w.cell? ⟨g,i*5+3,none⟩=some (.int .i64 (Ar.fa fs i).sum):=hat 3 (by omega);have k4:w.cell? ⟨g,i*5+4,none⟩=some (.string (Ar.fa fs i).blk):=hat 4 (by omega);refine ⟨?_,k1,ZdR h3 _⟩;have hw:=Zfx { Ar.fa fs i with dict:=d } h hi;unfold w5s at hw;simp only at hw;rw [ZP k0] at hw;have j2:=(ZaD w g (i*5+1) (i*5+2) (.int .i64 d) (by omega)).trans k2;have j3:=(ZaD w g (i*5+1) (i*5+3) (.int .i64 d) (by omega)).trans k3;have j4:=(ZaD w g (i*5+1) (i*5+4) (.int .i64 d) (by omega)).trans k4;rw [ZP j2,ZP j3,ZP j4] at hw;exact hw
theorem CpS.set1 {w0 wr:World} {C lo g cap n1 i:Nat} {v1:Value} {xs1:List Value} {fs:List Ar.F} (d:Int) (h:CpS w0 wr C lo v1 (.slice (some ⟨g,0,none⟩) fs.length cap) n1 fs.length xs1 (fcs fs)) (hi:i<fs.length) :
 CpS w0 (wr.setCell ⟨g,i*5+1,none⟩ (.int .i64 d)) C lo v1 (.slice (some ⟨g,0,none⟩) fs.length cap) n1 fs.length xs1 (fcs (fs.take i++{ Ar.fa fs i with dict:=d } :: fs.drop (i+1)))/\wr.cell? ⟨g,i*5+1,none⟩=some (.int .i64 (Ar.fa fs i).dict)/\wr.frozen? ⟨g,i*5+1,none⟩=false:=by
 obtain ⟨r1,r2,r3⟩:=ZpN d h.o2 hi;have hsg:=Zc wr ⟨g,i*5+1,none⟩ (.int .i64 d);have hgC:some C ≠ some g:=fun e=>h.a2 (show some g=some C from e.symm)
 have hg:=(h.o2.lt g rfl).1;refine ⟨⟨Zd hsg h.c0 hgC,Zd hsg h.c1 hgC,Zo hsg h.hb h.f0 hgC,Zo hsg h.hb h.f1 hgC,h.o1.kept hsg ?_,r1,h.ne,h.a1,h.a2,h.hC,nT h.hb hsg.size,h.bel.setCell hg _⟩,r2,r3⟩
 cases hv:v1.ownBlock with
 | none=>exact .inl rfl
 | some j=>exact .inr (fun e=>h.ne j hv e.symm)
theorem Fr.keep {w w0 w':World} {x y:Value} {lo:Nat} (h:Fr w w0 x y) (G:Below lo w0 w') (hl:w.heap.size+1<lo):Fr w w' x y:=by
 have h1:w.heap.size<lo:=by omega
 exact ⟨h.b.trans (G.mono (by omega)),(G.cell (p:=⟨w.heap.size,0,none⟩) h1).trans h.a0,(G.cell (p:=⟨w.heap.size,1,none⟩) h1).trans h.a1,(G.cell (p:=⟨w.heap.size+1,0,none⟩) hl).trans h.r0,(G.cell (p:=⟨w.heap.size+1,1,none⟩) hl).trans h.r1,
  (G.frozen (p:=⟨w.heap.size+1,0,none⟩) hl).trans h.z0,(G.frozen (p:=⟨w.heap.size+1,1,none⟩) hl).trans h.z1,nT h.hz G.size⟩
namespace Ar
theorem Zjd (a:A):∀ k,rkK a k<=k
 | 0=>nl _
 | k+1=>by have:=Zjd a k;rw [rkK];split <;> omega
theorem Zch (a:A):∀ k,(cpD a k).length=rkK a k
 | 0=>rfl
 | k+1=>by
  rw [cpD,rkK];split
  ·rw [List.length_append,Zch a k];rfl
  ·rw [Zch a k];rfl
theorem ZlQ {a:A} (h:chk a=0):cmpA a=⟨cpD a a.dicts.length,a.files.map (cpF a a.dicts.length)⟩:=if_pos h
theorem Zoz (a:A) (k:Nat) (f:F):(cpF a k f).name=f.name:=by unfold cpF;split <;> rfl
theorem Zmy (a:A) (k:Nat) (f:F):(cpF a k f).size=f.size/\(cpF a k f).sum=f.sum/\(cpF a k f).blk=f.blk:=by unfold cpF;split <;> exact ⟨rfl,rfl,rfl⟩
theorem ZhT {a:A} {d:ByteArray}:∀ {k:Nat},k<=a.dicts.length->d ∈ cpD a k->d ∈ a.dicts
 | 0,_,h=>by simp [cpD] at h
 | k+1,hk,h=>by
  rw [cpD] at h;split at h
  ·rcases List.mem_append.1 h with h | h
   ·exact ZhT (by omega) h
   ·rw [List.mem_singleton] at h;subst h;rw [show Tr.xa a.dicts k=a.dicts[k] by simp [Tr.xa,show k<a.dicts.length by omega]];exact gM _
  ·exact ZhT (by omega) h
theorem ZcE {a:A} {size:Int} (h:retE a size=0):chk a=0/\0<=size/\size<=256/\a.dicts.length ≠ 4:=by
 unfold retE at h;by_cases h1:chk a=0
 ·rw [if_neg (fun h9=>h9 h1)] at h;by_cases h2:0<=size/\size<=256
  ·rw [if_pos h2] at h;by_cases h3:a.dicts.length=4
   ·rw [if_pos h3] at h;cases h
   ·exact ⟨h1,h2.1,h2.2,h3⟩
  ·rw [if_neg h2] at h;cases h
 ·rw [if_pos h1] at h;exact absurd h h1
theorem ZhF {a:A} {size:Int} (h:retE a size=0):retA a size=⟨retD a size,a.files.map fun f=>pk (retD a size) f.name (tx a.dicts f) (a.dicts.length+1:Nat)⟩:=if_pos h
theorem Zqp {ds:List ByteArray} {f:F} (h:okf ds f=true):(up ds f).2=0:=by
 unfold okf at h;rw [Bool.and_eq_true] at h;exact (of_decide_eq_true h.2).1
theorem Zde {a:A} (h:chk a=0) {f:F} (hf:f ∈ a.files):(tx a.dicts f).size<=512:=by
 obtain ⟨hm,hg⟩:=Ze.1 h;exact Bk.unp_size (Zqp ((ZrR.1 hg).1 f hf).2)
theorem Zfj {a:A} {size:Int} (h:retE a size=0):many ⟨retD a size,a.files⟩=false:=by
 obtain ⟨h1,h2,h3,h4⟩:=ZcE h;obtain ⟨m1,m2,m3⟩:=Zw.1 (Ze.1 h1).1;refine Zw.2 ⟨by show (a.dicts++[_]).length<=4;rw [List.length_append];simp;omega,m2,?_⟩;intro d hd;rcases List.mem_append.1 hd with hd | hd
 ·exact m3 d hd
 ·rw [List.mem_singleton] at hd;subst hd;have:=(Tr.Zge (txs a) size.toNat).most;omega
theorem ZcJ {a:A} (h:chk a=0):(txs a).length<=12/\∀ t ∈ txs a,t.size<=512:=by
 obtain ⟨m1,m2,m3⟩:=Zw.1 (Ze.1 h).1;refine ⟨by unfold txs;rw [List.length_map];exact m2,fun t ht=>?_⟩;obtain ⟨f,hf,rfl⟩:=List.mem_map.1 ht;exact Zde h hf
end Ar
end Go.Proofs.YtbjbjbpgmojcbacGreat
