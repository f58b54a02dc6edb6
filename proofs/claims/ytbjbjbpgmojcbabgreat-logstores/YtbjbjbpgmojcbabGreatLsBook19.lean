/- A part of the proof: what it leans on. -/
import Derived.Test.YtbjbjbpgmojcbabGreatLsBook01
import Derived.Deep.RegionLaw
import Derived.OrdersHeld
import Derived.Deep.RegionHeld3
import Derived.Test.YtbjbjbpgmojcbabGreatLsBook10
import Derived.Test.YtbjbjbpgmojcbabGreatLsBook11
import Derived.Test.YtbjbjbpgmojcbabGreatLsBook12
import Derived.Test.YtbjbjbpgmojcbabGreatLsBook13
import Derived.Test.YtbjbjbpgmojcbabGreatLsBook14
import Derived.Test.YtbjbjbpgmojcbabGreatLsBook15
import Derived.Test.YtbjbjbpgmojcbabGreatLsBook17
import Derived.Test.YtbjbjbpgmojcbabGreatLsBook18
set_option maxRecDepth 8000
set_option maxHeartbeats 8000000
namespace Go.Proofs.YtbjbjbpgmojcbabGreat
open Go.RowKit
namespace Ar
theorem Znm (fs:List F) (name:ByteArray):∀ k,(rdK fs name k).length<=k
 | 0=>by simp [rdK]
 | k+1=>by
  have ih:=Znm fs name k;rw [rdK];split
  ·omega
  ·simp only [List.length_append,List.length_cons,List.length_nil];omega
end Ar
theorem ZkJ (ad af:Option Addr) (cd cf:Nat) (a:Ar.A) (name:ByteArray) (w:World) (h:ArV w ad af a) (hs:SaneA a) (hc:Ar.chk a ≠ 0) :
 Calls Tryz.prog 16 #[av ad cd af cf a,.string name] w fun e w'=>ArSaid w Ar.az (Ar.chk a) e w':=by
 have C1:Hid (∀ w',Below w.heap.size w w'->Calls Tryz.prog 19 #[av ad cd af cf a] w' fun e w2=>e=.returned (.int .i64 (Ar.chk a))/\Below w'.heap.size w' w2):=fun w' h9=>Zs ad af cd cf a w' (h.below h9) hs
 have hQ:Hid (∀ w',Below w.heap.size w w'->ArSaid w Ar.az (Ar.chk a) (.returned (.tuple #[.agg #[.slice none 0 0,.slice none 0 0],.int .i64 (Ar.chk a)])) w'):=fun w' h9=>Zy h9
 generalize ArSaid w Ar.az (Ar.chk a)=Q at *;unfold av at C1 |-
 generalize Ar.chk a=E at *;have e1:(E != 0)=true:=by simpa using hc
 have e2:(E == 0)=false:=by simpa using hc
 generalize a.dicts.length=D at *;generalize a.files.length=N at *;clear h hs hc;go_enter Tryz.func16,Tryz.ntmps16
 go_wp2_with fail
 refine (C1.out _ (Fr.start w _ _).b).mono ?_;rintro e w1 ⟨rfl,G1⟩;have F1:=(Fr.start w _ _).next G1;clear G1;obtain ⟨b,a0,a1,r0,r1,z0,z1,hz⟩:=id F1;go_wp2_with fail
 rw [F1.zero];exact bodyPost_ret (v:=.tuple #[.agg #[.slice none 0 0,.slice none 0 0],.int .i64 E]) (by simp [results,Tryz.results16,go_sem,F1.r0,F1.r1]) rfl (hQ.out _ F1.b)
theorem ZiK (ad af:Option Addr) (cd cf:Nat) (a:Ar.A) (name:ByteArray) (w:World) (h:ArV w ad af a) (hs:SaneA a) (hc:Ar.chk a=0) (ht:Ar.ZL a.files name=false) :
 Calls Tryz.prog 16 #[av ad cd af cf a,.string name] w fun e w'=>ArSaid w Ar.az 5 e w':=by
 obtain ⟨m1,m2,m3⟩:=Ar.Zw.1 (Ar.Zd.1 hc).1;have C1:Hid (∀ w',Below w.heap.size w w'->Calls Tryz.prog 19 #[av ad cd af cf a] w' fun e w2=>e=.returned (.int .i64 (Ar.chk a))/\Below w'.heap.size w' w2):=fun w' h9=>Zs ad af cd cf a w' (h.below h9) hs
 have C2:Hid (∀ w',Below w.heap.size w w'->Calls Tryz.prog 59 #[av ad cd af cf a,.string name] w' fun e w2=>e=.returned (.int .i64 (match Ar.fatK a.files name a.files.length with | none=>-1 | some i=>(i:Int)))/\Below w'.heap.size w' w2):=fun w' h9=>Zfp ad af cd cf a name w' (h.fs.below h9) m2
 rw [Ar.Zri (Ar.Zbc hc) name,ht,if_neg (by decide)] at C2;simp only at C2;rw [hc] at C1;have hQ:Hid (∀ w',Below w.heap.size w w'->ArSaid w Ar.az 5 (.returned (.tuple #[.agg #[.slice none 0 0,.slice none 0 0],.int .i64 5])) w'):=fun w' h9=>Zy h9
 generalize ArSaid w Ar.az 5=Q at *;unfold av at C1 C2 |-
 generalize a.dicts.length=D at *;generalize a.files.length=N at *;clear h hs hc ht m3;go_enter Tryz.func16,Tryz.ntmps16
 go_wp2_with fail
 refine (C1.out _ (Fr.start w _ _).b).mono ?_;rintro e w1 ⟨rfl,G1⟩;have F1:=(Fr.start w _ _).next G1;clear G1;obtain ⟨b,a0,a1,r0,r1,z0,z1,hz⟩:=id F1;go_wp2_with fail
 refine (C2.out _ F1.b).mono ?_;rintro e w2 ⟨rfl,G⟩;have F2:=F1.next G;clear b a0 a1 r0 r1 z0 z1 hz;obtain ⟨b,a0,a1,r0,r1,z0,z1,hz⟩:=id F2;go_wp2_with fail
 rw [F2.zero];exact bodyPost_ret (v:=.tuple #[.agg #[.slice none 0 0,.slice none 0 0],.int .i64 5]) (by simp [results,Tryz.results16,go_sem,F2.r0,F2.r1]) rfl (hQ.out _ F2.b)
theorem ZmB (ad af:Option Addr) (cd cf:Nat) (a:Ar.A) (name:ByteArray) (w:World) (h:ArV w ad af a) (hs:SaneA a) (hc:Ar.chk a=0) (ht:Ar.ZL a.files name=true) :
 Calls Tryz.prog 16 #[av ad cd af cf a,.string name] w fun e w'=>ArSaid w ⟨a.dicts,Ar.rdK a.files name a.files.length⟩ 0 e w':=by
 obtain ⟨i0,hi,hz0,hz1,hz2⟩:=info_parts (P:=Tryz.prog) (e:=9) (z:=.string ⟨#[]⟩) (size:=1) (bytes:=16) (by kernel_rfl);obtain ⟨j0,gi,gz0,gz1,gz2⟩:=info_parts (P:=Tryz.prog) (e:=46) (z:=.agg #[.string ⟨#[]⟩,.int .i64 0,.int .i64 0,.int .i64 0,.string ⟨#[]⟩]) (size:=5) (bytes:=56) (by kernel_rfl);obtain ⟨m1,m2,m3⟩:=Ar.Zw.1 (Ar.Zd.1 hc).1;have C1:Hid (∀ w',Below w.heap.size w w'->Calls Tryz.prog 19 #[av ad cd af cf a] w' fun e w2=>e=.returned (.int .i64 (Ar.chk a))/\Below w'.heap.size w' w2):=fun w' h9=>Zs ad af cd cf a w' (h.below h9) hs
 have C2:Hid (∀ w',Below w.heap.size w w'->Calls Tryz.prog 59 #[av ad cd af cf a,.string name] w' fun e w2=>e=.returned (.int .i64 (match Ar.fatK a.files name a.files.length with | none=>-1 | some i=>(i:Int)))/\Below w'.heap.size w' w2):=fun w' h9=>Zfp ad af cd cf a name w' (h.fs.below h9) m2
 have hp:=(Ar.ZY ht).1;rw [Ar.Zri (Ar.Zbc hc) name,ht,if_pos rfl] at C2;simp only at C2;rw [hc] at C1;have HDn:Hid (∀ w',Below w.heap.size w w'->(a.dicts.length=0\/∃ b,ad=some b/\∀ j u,(a.dicts.map Value.string)[j]?=some u->w'.cell? (b.add j)=some u)):=fun w' h9=>(h.ds.below h9).news
 have HFl:Hid (∀ k,k<a.files.length->∃ b off,af=some ⟨b,off,none⟩/\b<w.heap.size/\Hid (∀ w',Below w.heap.size w w'->w'.cell? ⟨b,off+k*5,none⟩=some (.string (Ar.fa a.files k).name)/\w'.cell? ⟨b,off+k*5+1,none⟩=some (.int .i64 (Ar.fa a.files k).dict)/\w'.cell? ⟨b,off+k*5+2,none⟩=some (.int .i64 (Ar.fa a.files k).size)/\w'.cell? ⟨b,off+k*5+3,none⟩=some (.int .i64 (Ar.fa a.files k).sum)/\w'.cell? ⟨b,off+k*5+4,none⟩=some (.string (Ar.fa a.files k).blk))):=fun k hk=>by
  obtain ⟨b,off,h1,h2,h3⟩:=h.fs.at hk;refine ⟨b,off,h1,h2,fun w' h9=>?_⟩;obtain ⟨k0,k1,k2,k3,k4⟩:=h3.below h9 h2;exact ⟨k0,k1,k2,k3,k4⟩
 have HDl:Hid ((a.dicts.map Value.string).length=a.dicts.length*1):=by show _=_;simp
 have HD1:Hid (∀ u ∈ a.dicts.map Value.string,u.oneCell'=true):=fun u hu=>by obtain ⟨x,_,rfl⟩:=List.mem_map.1 hu;rfl
 have hQ1:Hid (∀ v1 v2 w',w'.ownsRow w.heap.size 9 1 v1 a.dicts.length (a.dicts.map Value.string)->w'.ownsRow w.heap.size 46 5 v2 (Ar.rdK a.files name a.files.length).length (fcs (Ar.rdK a.files name a.files.length))->(∀ j,v1.ownBlock=some j->v2.ownBlock ≠ some j)->Below w.heap.size w w'->ArSaid w ⟨a.dicts,Ar.rdK a.files name a.files.length⟩ 0 (.returned (.tuple #[.agg #[v1,v2],.int .i64 0])) w'):=fun v1 v2 w' k1 k2 k3 k4=>⟨v1,v2,rfl,⟨k1,k2,k3⟩,k4⟩
 generalize ArSaid w ⟨a.dicts,Ar.rdK a.files name a.files.length⟩ 0=Q at *
 have HRS:Hid (∀ k,((Ar.fa a.files k).name=name->Ar.rdK a.files name (k+1)=Ar.rdK a.files name k)/\((Ar.fa a.files k).name ≠ name->Ar.rdK a.files name (k+1)=Ar.rdK a.files name k++[Ar.fa a.files k])):=fun k=>⟨fun h9=>by rw [Ar.rdK,if_pos h9],fun h9=>by rw [Ar.rdK,if_neg h9]⟩
 have HRL:Hid (∀ k,(Ar.rdK a.files name k).length<=k):=Ar.Znm a.files name;have HR0:Hid (Ar.rdK a.files name 0=[]):=rfl;generalize Ar.rdK a.files name=rp at *;generalize Ar.pos a.files name=ps at *;have HFc:Hid (∀ k,fcs [Ar.fa a.files k]=[.string (Ar.fa a.files k).name,.int .i64 (Ar.fa a.files k).dict,.int .i64 (Ar.fa a.files k).size,.int .i64 (Ar.fa a.files k).sum,.string (Ar.fa a.files k).blk]):=fun k=>rfl
 unfold av at C1 C2 |-
 clear h hs hc ht m3
 obtain ⟨D,hDD⟩:∃ D,a.dicts.length=D:=⟨_,rfl⟩
 obtain ⟨N,hNN⟩:∃ N,a.files.length=N:=⟨_,rfl⟩
 simp only [hDD,hNN] at C1 C2 HDn HFl HDl hQ1 m1 m2 hp |-
 clear hDD hNN;generalize a.dicts.map Value.string=ds at *;generalize Ar.fa a.files=fa at *;have hDi:(D:Int)<=4:=by omega
 have hNi:(N:Int)<=12:=by omega
 have dps:decide ((ps:Int)<0)=false:=dF (by omega);go_enter Tryz.func16,Tryz.ntmps16
 go_wp2_with fail
 refine (C1.out _ (Fr.start w _ _).b).mono ?_;rintro e w1 ⟨rfl,G1⟩;have F1:=(Fr.start w _ _).next G1;clear G1;obtain ⟨b,a0,a1,r0,r1,z0,z1,hz⟩:=id F1;go_wp2_with fail
 refine (C2.out _ F1.b).mono ?_;rintro e w3 ⟨rfl,G⟩;have F3:=F1.next G;clear b a0 a1 r0 r1 z0 z1 hz F1 G C1 C2;obtain ⟨b,a0,a1,r0,r1,z0,z1,hz⟩:=id F3;have hz9:w.heap.size<w3.heap.size:=by omega
 have O0:=Zdb w3 w3.heap.size 9 1 (nl _);have hD2:=HDn.out _ (F3.b.alloc (by have:=F3.b.size;omega) (.cells #[] 9 (0,0)));have hds1:=HDl.out;have hds2:=HD1.out
 go_wp2_with (first
  | (at_builtin;refine Zad rfl _ _ 22 rfl w3.heap.size 9 i0 (.string ⟨#[]⟩) 1 16 Tryz.underlying22 hi hz0 hz1 hz2 rfl (by decide) w3.heap.size 0 0 [] rfl O0 ad D cd ds rfl hds1 hD2 hds2 (by unfold maxLen;omega) (by omega) (by simp) _ rfl ?_;intro g cp w5 hown5 hgrow5 hat5)
  | fail)
 have BX:Below w3.heap.size w3 w5:=((Below.refl _ _).alloc (Nat.le_refl _) _).grown hgrow5 (by simp) (fun j hj=>by simp at hj;omega);simp only [Nat.zero_add,List.nil_append] at hown5 |-
 have S0:=CpS.new1 BX BX.size hown5;clear O0 hD2 hds1 hds2 hgrow5 hat5 hown5 HDn HDl HD1 BX a0 a1 r0 r1 z0 z1 b;generalize (w5.alloc (.cells #[.slice (some ⟨g,0,none⟩) D cp,.slice none 0 0] 25 (0,0)))=w6 at *;generalize w5.heap.size=C at *;go_loopw [8] (fun i wr=>∃ (k:Nat) (v2:Value),k<=N/\i=.int .i64 k/\CpS w3 wr C w3.heap.size (.slice (some ⟨g,0,none⟩) D cp) v2 D (rp k).length ds (fcs (rp k))) (fun i _=>N - (intOf i).toNat)
 case atStart=>exact ⟨0,_,by omega,rfl,by rw [HR0.out];exact S0⟩
 case round =>
  obtain ⟨k,v2,hk2,rfl,S1⟩:=hrel;have F2:=F3.keep S1.bel hz;obtain ⟨B2,a0,a1,r0,r1,z0,z1,hz2⟩:=id F2;by_cases hlt:k<N
  ·have e1:decide ((k:Int)<(N:Int))=true:=zdT (by omega);have e1':decide (k<N)=true:=zdT hlt;have hki:(k:Int)<(N:Int):=by omega
   obtain ⟨b,off,rfl,hbw,HFw⟩:=HFl.out k hlt;obtain ⟨c0,c1,c2,c3,c4⟩:=HFw.out wr B2;have hbl:b<wr.heap.size:=nT hbw B2.size;have HRk:=HRS.out k;have HFk:=HFc.out k;have HLk:=HRL.out k;have hbe:=ZdK (fa k).name name;by_cases hnm:(fa k).name=name
   ·rw [zdT hnm] at hbe;have HN:Hid (rp (k+1)=rp k):=HRk.1 hnm;clear HRk;generalize (fa k).name=f0 at *;subst hnm;go_wp2_with fail
    go_roundw
    case rel=>exact ⟨k+1,_,by omega,by go_num,by rw [HN.out];exact S1⟩
    case measure=>simp [intOf];omega
   ·rw [dF hnm] at hbe;have HN:Hid (rp (k+1)=rp k++[fa k]):=HRk.2 hnm;clear HRk hnm;generalize rp k=L at *;have c1S:=S1.c1;have f1S:=S1.f1;have hbC:=S1.hb;have hlC:=S1.hC;obtain ⟨p2,q2,rfl,_⟩:=Zl S1.o2;have S9:=S1.below ((bR _ _).drew);generalize (fa k).name=f0 at *;generalize (fa k).dict=f1 at *;generalize (fa k).size=f2 at *;generalize (fa k).sum=f3 at *;generalize (fa k).blk=f4 at *;go_wp2_with fail
    go_region_law (first
     | (refine step_append_lies _ rfl _ _ 23 rfl w3.heap.size 46 j0 (.agg #[.string ⟨#[]⟩,.int .i64 0,.int .i64 0,.int .i64 0,.string ⟨#[]⟩]) 5 56 Tryz.underlying23 gi gz0 gz1 gz2 rfl (by decide) _ _ _ rfl (S9.o2.alloc _) ⟨wr.drew.heap.size,0,none⟩ 1 1 [.string f0,.int .i64 f1,.int .i64 f2,.int .i64 f3,.string f4] rfl rfl (ZdR _ _ _ _ _ _ _) (one5 _ _ _ _ _) (by decide) (by unfold maxLen;omega) (by omega) (by simp;omega) _ rfl ?_;intro g9 cp9 w9 hown7 hgrow7 hat7 hlt7;obtain ⟨⟨q1,q2⟩,S10⟩:=S9.put2 hgrow7 hown7 hat7;clear hgrow7 hown7 hat7 hlt7))
    all_goals
     go_wp2_with fail
     go_roundw
     case rel=>exact ⟨k+1,_,by omega,by go_num,by rw [HN.out];simp only [List.length_append,List.length_cons,List.length_nil,Zz,HFk];exact S10⟩
     case measure=>simp [intOf];omega
  ·obtain rfl:k=N:=by omega
   have e1:decide ((k:Int)<(k:Int))=false:=by simp
   have ne9:=S1.ne;have cc0:=S1.c0;have cc1:=S1.c1;have hC2:=S1.hb;obtain ⟨Bz,Oz1,Oz2,Rz0,Rz1⟩:=Zbb F2.b S1.o1 S1.o2 hz F2.r0 F2.r1;have hfin:=hQ1.out _ _ _ Oz1 Oz2 ne9 Bz;obtain ⟨p2,q2,rfl,_⟩:=Zl S1.o2;generalize rp k=RE at *;generalize RE.length=n at *;clear S1 hQ1 Oz1 Oz2 Bz;go_wp2_with fail
   generalize (wr.setCell ⟨w.heap.size+1,0,none⟩ (.slice (some ⟨g,0,none⟩) D cp)).setCell ⟨w.heap.size+1,1,none⟩ (.slice p2 n q2)=wz at *;exact bodyPost_ret (v:=.tuple #[.agg #[.slice (some ⟨g,0,none⟩) D cp,.slice p2 n q2],.int .i64 0]) (by simp [results,Tryz.results16,go_sem,Rz0,Rz1]) rfl hfin
theorem ZkT (ad af:Option Addr) (cd cf:Nat) (a:Ar.A) (name:ByteArray) (w:World) (h:ArV w ad af a) (hs:SaneA a) :
 Calls Tryz.prog 16 #[av ad cd af cf a,.string name] w fun e w'=>ArSaid w (Ar.ZbB a name) (Ar.getE a name) e w':=by
 by_cases hc:Ar.chk a=0
 ·cases ht:Ar.ZL a.files name with
  | false =>
   have e:Ar.getE a name=5:=by unfold Ar.getE;rw [if_neg (fun h9=>h9 hc),if_neg (by rw [ht];decide)]
   have e2:Ar.ZbB a name=Ar.az:=by unfold Ar.ZbB;rw [e,if_neg (by decide)]
   rw [e,e2];exact ZiK ad af cd cf a name w h hs hc ht
  | true =>
   have e:Ar.getE a name=0:=by unfold Ar.getE;rw [if_neg (fun h9=>h9 hc),if_pos ht]
   rw [Ar.ZqK e,e,<-Ar.Zvo (Ar.Zbc hc) ht];exact ZmB ad af cd cf a name w h hs hc ht
 ·have e:Ar.getE a name=Ar.chk a:=by unfold Ar.getE;rw [if_pos hc]
  have e2:Ar.ZbB a name=Ar.az:=by unfold Ar.ZbB;rw [e,if_neg hc]
  rw [e,e2];exact ZkJ ad af cd cf a name w h hs hc
theorem ZfH (ad af:Option Addr) (cd cf:Nat) (a:Ar.A) (size:Int) (w:World) (h:ArV w ad af a) (hs:SaneA a) (hc:Ar.chk a ≠ 0) :
 Calls Tryz.prog 28 #[av ad cd af cf a,.int .i64 size] w fun e w'=>ArSaid w Ar.az (Ar.chk a) e w':=by
 have C1:Hid (∀ w',Below w.heap.size w w'->Calls Tryz.prog 19 #[av ad cd af cf a] w' fun e w2=>e=.returned (.int .i64 (Ar.chk a))/\Below w'.heap.size w' w2):=fun w' h9=>Zs ad af cd cf a w' (h.below h9) hs
 have hQ:Hid (∀ w',Below w.heap.size w w'->ArSaid w Ar.az (Ar.chk a) (.returned (.tuple #[.agg #[.slice none 0 0,.slice none 0 0],.int .i64 (Ar.chk a)])) w'):=fun w' h9=>Zy h9
 generalize ArSaid w Ar.az (Ar.chk a)=Q at *;generalize Ar.chk a=E at *;have e1:(E != 0)=true:=by simpa using hc
 have e2:(E == 0)=false:=by simpa using hc
 clear hc;unfold av at C1 |-
 generalize a.dicts.length=D at *;generalize a.files.length=N at *;clear h hs;go_enter Tryz.func28,Tryz.ntmps28
 go_wp2_with fail
 refine (C1.out _ (Fr.start w _ _).b).mono ?_;rintro e w1 ⟨rfl,G1⟩;have F1:=(Fr.start w _ _).next G1;clear G1;obtain ⟨b,a0,a1,r0,r1,z0,z1,hz⟩:=id F1;go_wp2_with fail
 rw [F1.zero];exact bodyPost_ret (v:=.tuple #[.agg #[.slice none 0 0,.slice none 0 0],.int .i64 E]) (by simp [results,Tryz.results28,go_sem,F1.r0,F1.r1]) rfl (hQ.out _ F1.b)
theorem Zfe (ad af:Option Addr) (cd cf:Nat) (a:Ar.A) (size:Int) (w:World) (h:ArV w ad af a) (hs:SaneA a) (hc:Ar.chk a=0) (hz9:¬ (0<=size/\size<=256)) :
 Calls Tryz.prog 28 #[av ad cd af cf a,.int .i64 size] w fun e w'=>ArSaid w Ar.az 3 e w':=by
 have C1:Hid (∀ w',Below w.heap.size w w'->Calls Tryz.prog 19 #[av ad cd af cf a] w' fun e w2=>e=.returned (.int .i64 (Ar.chk a))/\Below w'.heap.size w' w2):=fun w' h9=>Zs ad af cd cf a w' (h.below h9) hs
 have C2:Hid (∀ w',Calls Tryz.prog 57 #[.int .i64 size,.int .i64 0,.int .i64 256] w' fun e w2=>e=.returned (.bool (decide (0<=size/\size<=256)))/\w2=w'):=fun w'=>ZJ size 0 256 w'
 have hQ:Hid (∀ w',Below w.heap.size w w'->ArSaid w Ar.az 3 (.returned (.tuple #[.agg #[.slice none 0 0,.slice none 0 0],.int .i64 3])) w'):=fun w' h9=>Zy h9
 generalize ArSaid w Ar.az 3=Q at *;rw [hc] at C1;rw [dF hz9] at C2;clear hc hz9;unfold av at C1 |-
 generalize a.dicts.length=D at *;generalize a.files.length=N at *;clear h hs;go_enter Tryz.func28,Tryz.ntmps28
 go_wp2_with fail
 refine (C1.out _ (Fr.start w _ _).b).mono ?_;rintro e w1 ⟨rfl,G1⟩;have F1:=(Fr.start w _ _).next G1;clear G1;obtain ⟨b,a0,a1,r0,r1,z0,z1,hz⟩:=id F1;go_wp2_with fail
 refine (C2.out _).mono ?_;rintro e w2 ⟨rfl,rfl⟩;go_wp2_with fail
 rw [F1.zero];exact bodyPost_ret (v:=.tuple #[.agg #[.slice none 0 0,.slice none 0 0],.int .i64 3]) (by simp [results,Tryz.results28,go_sem,F1.r0,F1.r1]) rfl (hQ.out _ F1.b)
theorem Zff (ad af:Option Addr) (cd cf:Nat) (a:Ar.A) (size:Int) (w:World) (h:ArV w ad af a) (hs:SaneA a) (hc:Ar.chk a=0) (hz9:0<=size/\size<=256) (h4:a.dicts.length=4) :
 Calls Tryz.prog 28 #[av ad cd af cf a,.int .i64 size] w fun e w'=>ArSaid w Ar.az 2 e w':=by
 have C1:Hid (∀ w',Below w.heap.size w w'->Calls Tryz.prog 19 #[av ad cd af cf a] w' fun e w2=>e=.returned (.int .i64 (Ar.chk a))/\Below w'.heap.size w' w2):=fun w' h9=>Zs ad af cd cf a w' (h.below h9) hs
 have C2:Hid (∀ w',Calls Tryz.prog 57 #[.int .i64 size,.int .i64 0,.int .i64 256] w' fun e w2=>e=.returned (.bool (decide (0<=size/\size<=256)))/\w2=w'):=fun w'=>ZJ size 0 256 w'
 have hQ:Hid (∀ w',Below w.heap.size w w'->ArSaid w Ar.az 2 (.returned (.tuple #[.agg #[.slice none 0 0,.slice none 0 0],.int .i64 2])) w'):=fun w' h9=>Zy h9
 generalize ArSaid w Ar.az 2=Q at *;rw [hc] at C1;rw [zdT hz9] at C2;have d4:decide ((4:Int)<=(a.dicts.length:Int))=true:=zdT (by omega);have d4':decide (4<=a.dicts.length)=true:=zdT (by omega);clear hc hz9 h4;unfold av at C1 |-
 generalize a.dicts.length=D at *;generalize a.files.length=N at *;clear h hs;go_enter Tryz.func28,Tryz.ntmps28
 go_wp2_with fail
 refine (C1.out _ (Fr.start w _ _).b).mono ?_;rintro e w1 ⟨rfl,G1⟩;have F1:=(Fr.start w _ _).next G1;clear G1;obtain ⟨b,a0,a1,r0,r1,z0,z1,hz⟩:=id F1;go_wp2_with fail
 refine (C2.out _).mono ?_;rintro e w2 ⟨rfl,rfl⟩;go_wp2_with fail
 rw [F1.zero];exact bodyPost_ret (v:=.tuple #[.agg #[.slice none 0 0,.slice none 0 0],.int .i64 2]) (by simp [results,Tryz.results28,go_sem,F1.r0,F1.r1]) rfl (hQ.out _ F1.b)
open Go.Maps
namespace Tr
def snK (t q:ByteArray):Nat->Nat
 | 0=>0
 | j+1=>snK t q j+(if pc t j=q then 1 else 0)
theorem Zrg (t q:ByteArray):∀ j,snK t q j<=j
 | 0=>nl _
 | j+1=>by have:=Zrg t q j;rw [snK];split <;> omega
theorem ZkB {t q:ByteArray} (hq:q.size=4):∀ {j:Nat},j<=t.size - 3->(snK t q j=0 ↔ stK q t j=false)
 | 0,_=>by simp [snK,stK]
 | j+1,h=>by
  have ih:=ZkB (t:=t) hq (j:=j) (by omega);rw [snK,stK,Bool.or_eq_false_iff,<-ih,decide_eq_false_iff_not,hq];constructor
  ·intro h9;refine ⟨by omega,?_⟩;rintro ⟨_,e⟩;rw [if_pos (show pc t j=q from e)] at h9;omega
  ·rintro ⟨h1,h2⟩;rw [if_neg (show ¬ pc t j=q from fun e=>h2 ⟨by omega,e⟩)];omega
theorem Zsj (t:ByteArray) (j:Nat):snK t (pc t j) (j+1)=snK t (pc t j) j+1:=by rw [snK,if_pos rfl]
theorem ZmD {t q:ByteArray} {j:Nat} (h:q ≠ pc t j):snK t q (j+1)=snK t q j:=by rw [snK,if_neg (fun e=>h e.symm)];rfl
theorem CM.below {w w':World} {b n:Nat} {f:ByteArray->Nat} (h:CM w b n f) (hb:Below w.heap.size w w'):CM w' b n f:=by
 obtain ⟨D,h1,h2⟩:=h;refine ⟨D,?_,h2⟩;have hlt:=h1.lt;obtain ⟨es,cl,h3,h4⟩:=h1;exact ⟨es,cl,by rw [hb.block b hlt];exact h3,h4⟩
theorem CM.kept' {w w':World} {b n:Nat} {f:ByteArray->Nat} {row:Option Nat} (h:CM w b n f) (hg:w.grownBy w' row) (hne:some b ≠ row):CM w' b n f:=by
 obtain ⟨D,h1,h2⟩:=h;exact ⟨D,h1.kept hg hne,h2⟩
theorem CM.at_f {f:ByteArray->Nat} {D:DataW Unit} (h3:∀ q:ByteArray,q.size=4->D.atKey (kl q) (i64 0)=i64 (f q)) (p:ByteArray) (hp:p.size=4) (c:Int) (h9:D.atKey (kl p) (.lit (.int .i64 0))=.lit (.int .i64 c)):c=(f p:Int):=by
 have h8:=h9.symm.trans (h3 p hp);simpa [i64] using h8
theorem ZrH {xs:List ByteArray} {d P B:ByteArray} {C:Nat} (h:C<ct xs P\/(ct xs P=C/\1<ct xs P/\bl P B=true)) (hs:st P d=false):bs xs d (B,C) P=(P,ct xs P):=by
 rw [bs,if_pos];rw [hs];rcases h with h | ⟨h1,h2,h3⟩
 ·simp [h]
 ·rw [h3];simp [h1];omega
theorem Zom {xs:List ByteArray} {d P B:ByteArray} {C:Nat} (h:¬ (C<ct xs P\/(ct xs P=C/\1<ct xs P/\bl P B=true))\/st P d=true):bs xs d (B,C) P=(B,C):=by
 rw [bs,if_neg];intro h9;simp only [Bool.and_eq_true,Bool.or_eq_true,decide_eq_true_iff,Bool.not_eq_true',beq_iff_eq] at h9;rcases h with h | h
 ·apply h;rcases h9.1 with h8 | h8
  ·exact .inl h8
  ·exact .inr ⟨h8.1.1,h8.1.2,h8.2⟩
 ·rw [h] at h9;cases h9.2
theorem Znd (xs:List ByteArray) (d:ByteArray):(best xs d).size=0\/(best xs d).size=4:=by
 rcases Zcz xs d with ⟨h,_⟩ | ⟨h,_⟩
 ·left;rw [h];rfl
 ·exact .inr h
def bsz:Value->Nat
 | .string b=>b.size
 | _=>0
theorem ZZ {b:ByteArray} (h:0<b.size):b.toList.isEmpty=false:=by
 rw [ByteArray.toList_eq,List.isEmpty_eq_false_iff];intro e;have:=congrArg List.length e;simp at this;rw [this] at h;exact absurd h (by decide)
theorem ZmA {b:ByteArray} (h:b.size=0):b=⟨#[]⟩:=by
 cases b with | mk d=>congr;exact Array.eq_empty_of_size_eq_zero h
end Tr
open Go.WideMaps
theorem Zhe (xs:List ByteArray) (size:Int) (b off cap:Nat) (w:World) (hx:Tr.TxAt w b off xs) (hn:xs.length<=12) (hB:∀ i,(Tr.xa xs i).size<=512) (h0:0<=size) (h1:size<=256) :
 Calls Tryz.prog 70 #[.slice (some ⟨b,off,none⟩) xs.length cap,.int .i64 size] w fun e w'=>e=.returned (.string (Tr.trn xs size.toNat))/\Below w.heap.size w w':=by
 have HX:Hid (∀ w',Below w.heap.size w w'->∀ i,i<xs.length->w'.cell? ⟨b,off+i,none⟩=some (.string (Tr.xa xs i))):=fun w' h=>(hx.below h).2
 have HB:Hid (∀ i,(Tr.xa xs i).size<=512):=hB;clear hB hx;have hn':(xs.length:Int)<=12:=by omega
 have hmm:=@run_makeMap Tryz.prog
 obtain ⟨R,hR⟩:∃ R,Tr.trn xs size.toNat=R:=⟨_,rfl⟩
 rw [hR];have HR0:Hid (Tr.tro xs size.toNat 65 ⟨#[]⟩=R):=hR;clear hR;go_enter Tryz.func70,Tryz.ntmps70
 go_wp2_with fail
 go_loopw [6] (fun i wr=>∃ k:Nat,k<=xs.length/\i=.int .i64 k/\Tr.CM wr w.heap.size (512*k) (fun q=>Tr.ctK xs q k)/\Below w.heap.size w wr) (fun i _=>xs.length - (intOf i).toNat)
 case atStart=>exact ⟨0,by omega,rfl,Tr.CM.made _,(bR _ _).alloc (nl _) _⟩
 case round =>
  obtain ⟨k,hk2,rfl,hC,B1⟩:=hrel;by_cases hlt:k<xs.length
  ·have d1:decide ((k:Int)<(xs.length:Int))=true:=by simp;omega
   have d1':decide (k<xs.length)=true:=by simp;omega
   have hki:(k:Int)<(xs.length:Int):=by omega
   have hXs:=HB.out k
   obtain ⟨X,hX⟩:∃ X,Tr.xa xs k=X:=⟨_,rfl⟩
   rw [hX] at hXs;have HXk:Hid (Tr.xa xs k=X):=hX;clear hX;have hwb:w.heap.size<wr.heap.size:=by obtain ⟨D,h,_⟩:=hC;exact h.lt
   have hC0:=hC.below ((bR wr.heap.size wr).alloc (nl _) (.map #[] 0));have B0:=B1.alloc B1.size (.map #[] 0);clear hC B1;go_wp2_with fail
   have HS:Hid (∀ w',Below w.heap.size w w'->w'.cell? ⟨b,off+k,none⟩=some (.string X)):=fun w' h=>by rw [<-HXk.out];exact HX.out w' h k hlt
   have hsm:=Tr.CM.made wr;generalize wr.heap.size=sb at *;go_loopw [8] (fun i wr2=>∃ j:Nat,j<=X.size - 3/\i=.int .i64 j/\Tr.CM wr2 w.heap.size (512*k+j) (Tr.cn xs k j)/\Tr.CM wr2 sb j (fun q=>Tr.snK X q j)/\Below w.heap.size w wr2) (fun i _=>X.size - 3 - (intOf i).toNat)
   case atStart=>exact ⟨0,by omega,rfl,hC0.same (by omega) (fun q _=>(Tr.ZoA xs k q).symm),hsm,B0⟩
   case round =>
    clear hC0 hsm B0;obtain ⟨j,hj2,rfl,hC,hS,B1⟩:=hrel;have c1:=HS.out _ B1;by_cases hjl:j<X.size - 3
    ·have e1:decide ((j:Int)+4<=(X.size:Int))=true:=zdT (by omega);have hji:(j:Int)+4<=(X.size:Int):=by omega
     have hjn:j+4<=X.size:=by omega
     have hj5:(j:Int)<=512:=by omega
     obtain ⟨P,hP⟩:∃ P,X.extract j (j+4)=P:=⟨_,rfl⟩
     have HP:Hid (Tr.pc X j=P):=hP;have hP4:Hid (P.size=4):=by show _=_;rw [<-HP.out];exact Tr.Zet hjl
     have hkey:keyOf Tryz.prog 9 (.string (X.extract j (j+4)))=some (Tr.kl P):=by rw [hP];exact keyOf_string_mk Tryz.underlying9 (by rw [hP4.out];decide)
     clear hP;have HZ:=Tr.ZkB (t:=X) hP4.out (j:=j) (by omega);have hsl:=Tr.Zrg X P j;have hsl2:Hid (Tr.snK X P (j+1)=Tr.snK X P j+1):=by have:=Tr.Zsj X j;rw [HP.out] at this;exact this
     have hsl3:Hid (∀ q:ByteArray,q.size=4->q ≠ P->Tr.snK X q (j+1)=Tr.snK X q j):=fun q _ hne=>Tr.ZmD (by rw [HP.out];exact hne)
     obtain ⟨E,hS0,hE2,hE3,hE4⟩:=hS;have hatS:=Tr.CM.at_f hE3 P hP4.out
     obtain ⟨N,hN⟩:∃ N,Tr.snK X P j=N:=⟨_,rfl⟩
     simp only [hN] at hatS;rw [hN] at HZ hsl;have HN:Hid (Tr.snK X P j=N):=hN;have hNi:(N:Int)<=512:=by omega
     have wf1:(Lit.int .i64 ((N:Int)+1)).wf=true:=WalkArith.wf_i64 (by omega);clear hN hsl;by_cases hz:N=0
     ·subst hz;have hst:=HZ.1 rfl
      have HN2:Hid (Tr.cn xs k (j+1) P=Tr.cn xs k j P+1):=by
       have:=Tr.ZrG (xs:=xs) (k:=k) (i:=j) (by rw [HXk.out];exact hjl) (by rw [HXk.out,HP.out];exact hst);rw [HXk.out,HP.out] at this;exact this
      have HO:Hid (∀ q:ByteArray,q.size=4->q ≠ P->Tr.cn xs k (j+1) q=Tr.cn xs k j q):=fun q hq hne=>Tr.Zgb hq (by rw [HXk.out,HP.out];exact hne)
      obtain ⟨D,hown,hD2,hD3,hD4⟩:=hC;have hatC:=Tr.CM.at_f hD3 P hP4.out;have hcl:=Tr.ZuP xs k j P
      obtain ⟨C,hCC⟩:∃ C,Tr.cn xs k j P=C:=⟨_,rfl⟩
      rw [hCC] at hatC hcl;have HCC:Hid (Tr.cn xs k j P=C):=hCC;have hCi:(C:Int)<=13:=by omega
      have wf2:(Lit.int .i64 ((C:Int)+1)).wf=true:=WalkArith.wf_i64 (by omega);clear hCC hcl hst HZ
      go_wp2_with (first
       | (at_lookup;refine wpList_lookup_own_int _ rfl _ _ 140 rfl 9 3 .i64 keyS Tryz.underlying140 Tryz.underlying3 (ZbW _) sb j _ rfl hS1 _ _ rfl hkey ?_;intro c hat hwc;obtain rfl:=hatS c hat;clear hat hwc)
       | (at_lookup;refine wpList_lookup_own_int _ rfl _ _ 140 rfl 9 3 .i64 keyS Tryz.underlying140 Tryz.underlying3 (ZbW _) sb j _ rfl hS0 _ _ rfl hkey ?_;intro c hat hwc;obtain rfl:=hatS c hat;clear hat hwc)
       | (at_lookup;refine wpList_lookup_own_int _ rfl _ _ 140 rfl 9 3 .i64 keyS Tryz.underlying140 Tryz.underlying3 (ZbW _) w.heap.size (512*k+j) _ rfl hown _ _ rfl hkey ?_;intro c hat hwc;obtain rfl:=hatC c hat;clear hat hwc)
       | (at_mapUpdate;refine wpList_mapUpdate_own _ rfl _ _ _ 140 rfl 9 3 keyS Tryz.underlying140 _ w.heap.size (512*k+j) _ rfl hown (by unfold maxLen;omega) _ _ _ rfl rfl hkey _ [] (plainElem_int Tryz.underlying3 wf2) ?_;intro w1 hown1 hgrow1;have hS1:=hS0.kept hgrow1 (by simp;omega);clear hS0)
       | (at_mapUpdate;refine wpList_mapUpdate_own _ rfl _ _ _ 140 rfl 9 3 keyS Tryz.underlying140 _ sb j _ rfl hS1 (by unfold maxLen;omega) _ _ _ rfl rfl hkey _ [] (plainElem_int Tryz.underlying3 wf1) ?_;intro w2 hS2 hgrow2;have hown2:=hown1.kept hgrow2 (by simp;omega);clear hown1 hS1)
       | fail)
      have hC2:Tr.CM w2 w.heap.size (512*k+(j+1)) (Tr.cn xs k (j+1)):=Tr.CM.put hP4.out hD2 hD3 hD4 (by rw [HN2.out,HCC.out];exact hown2) HN2.out HO.out;have hSS2:Tr.CM w2 sb (j+1) (fun q=>Tr.snK X q (j+1)):=Tr.CM.put hP4.out hE2 hE3 hE4 (by show w2.ownsMap _ _ _ _ _ (E.put _ (Tr.i64 ((Tr.snK X P (j+1):Nat):Int)));rw [hsl2.out,HN.out];exact hS2) hsl2.out hsl3.out;have B2:=(B1.grown hgrow1 B1.size (fun j hj=>by cases hj;exact nl _)).grown hgrow2 (by have:=hgrow1.size;have:=B1.size;omega) (fun j hj=>by cases hj;omega);clear hown2 hS2 hgrow1 hgrow2 B1 hown;go_roundw
      case rel=>exact ⟨j+1,by omega,by go_num,hC2,hSS2,B2⟩
      case measure=>simp [intOf];omega
     ·have hst:Tr.stK P X j=true:=by
       cases h9:Tr.stK P X j with
       | true=>rfl
       | false=>exact absurd (HZ.2 h9) hz
      have HN2:Hid (∀ q:ByteArray,q.size=4->Tr.cn xs k j q=Tr.cn xs k (j+1) q):=fun q hq=>(Tr.Zrl (by rw [HXk.out,HP.out];exact hst) hq).symm
      have hz':¬ (N:Int)=0:=by omega
      have e2:decide ((N:Int)=0)=false:=decide_eq_false hz';have e3:((N:Int) == 0)=false:=by simpa using hz'
      clear hst HZ
      go_wp2_with (first
       | (at_lookup;refine wpList_lookup_own_int _ rfl _ _ 140 rfl 9 3 .i64 keyS Tryz.underlying140 Tryz.underlying3 (ZbW _) sb j _ rfl hS0 _ _ rfl hkey ?_;intro c hat hwc;obtain rfl:=hatS c hat;clear hat hwc)
       | (at_mapUpdate;refine wpList_mapUpdate_own _ rfl _ _ _ 140 rfl 9 3 keyS Tryz.underlying140 _ sb j _ rfl hS0 (by unfold maxLen;omega) _ _ _ rfl rfl hkey _ [] (plainElem_int Tryz.underlying3 wf1) ?_;intro w2 hS2 hgrow2)
       | fail)
      have hC2:Tr.CM w2 w.heap.size (512*k+(j+1)) (Tr.cn xs k (j+1)):=(hC.kept' hgrow2 (by simp;omega)).same (by omega) HN2.out;have hSS2:Tr.CM w2 sb (j+1) (fun q=>Tr.snK X q (j+1)):=Tr.CM.put hP4.out hE2 hE3 hE4 (by show w2.ownsMap _ _ _ _ _ (E.put _ (Tr.i64 ((Tr.snK X P (j+1):Nat):Int)));rw [hsl2.out,HN.out];exact hS2) hsl2.out hsl3.out;have B2:=B1.grown hgrow2 B1.size (fun j hj=>by cases hj;omega);clear hS0 hS2 hgrow2 B1 hC;go_roundw
      case rel=>exact ⟨j+1,by omega,by go_num,hC2,hSS2,B2⟩
      case measure=>simp [intOf];omega
    ·have e1:decide ((j:Int)+4<=(X.size:Int))=false:=dF (by omega);have hj5:(j:Int)<=512:=by omega
     have hC2:Tr.CM wr w.heap.size (512*(k+1)) (fun q=>Tr.ctK xs q (k+1)):=hC.same (by omega) (fun q hq=>Tr.Zrj hq (by rw [HXk.out];omega));clear hC hS;go_wp2_with fail
     go_roundw
     case rel=>exact ⟨k+1,by omega,by go_num,hC2,B1⟩
     case measure=>simp [intOf];omega
  ·obtain rfl:k=xs.length:=by omega
   have d1:decide ((xs.length:Int)<(xs.length:Int))=false:=by simp
   have hC0:Tr.CM wr w.heap.size 6144 (Tr.ct xs):=hC.same (by omega) (fun _ _=>rfl);clear hC hmm hlt hk2;go_wp2_with fail
   go_loopw [10] (fun dv wr=>∃ (d:ByteArray) (f:Nat),dv=.string d/\Hid (Tr.tro xs size.toNat f d=R)/\Hid (4*f+d.size=260)/\d.size<=256/\Tr.CM wr w.heap.size 6144 (Tr.ct xs)/\Below w.heap.size w wr) (fun dv _=>300 - Tr.bsz dv)
   case atStart=>exact ⟨⟨#[]⟩,65,rfl,HR0,rfl,by decide,hC0,B1⟩
   case round =>
    clear hC0 B1 HR0;obtain ⟨d,f,rfl,HRd,Hf,hd,hC0,B1⟩:=hrel;by_cases hfit:(d.size:Int)+4<=size
    ·have e1:decide ((d.size:Int)+4<=size)=true:=zdT hfit;go_wp2_with fail
     go_loopw [11,12,13] (fun bv cv iv wr2=>∃ (B:ByteArray) (C k:Nat),k<=xs.length/\iv=.int .i64 k/\bv=.string B/\cv=.int .i64 C/\Hid (Tr.bsT xs d k=(B,C))/\B.size<=4/\C<=100/\Tr.CM wr2 w.heap.size 6144 (Tr.ct xs)/\Below w.heap.size w wr2) (fun _ _ iv _=>xs.length - (intOf iv).toNat)
     case atStart=>exact ⟨⟨#[]⟩,1,0,by omega,rfl,rfl,rfl,rfl,by decide,by omega,hC0,B1⟩
     case round =>
      clear hC0 B1;obtain ⟨B0,C0,k,hk2,rfl,rfl,rfl,HT,hB0,hC00,hC0,B1⟩:=hrel;by_cases hlt:k<xs.length
      ·have d1:decide ((k:Int)<(xs.length:Int))=true:=by simp;omega
       have d1':decide (k<xs.length)=true:=by simp;omega
       have hki:(k:Int)<(xs.length:Int):=by omega
       have hXs:=HB.out k
       obtain ⟨X,hX⟩:∃ X,Tr.xa xs k=X:=⟨_,rfl⟩
       rw [hX] at hXs;have HXk:Hid (Tr.xa xs k=X):=hX;clear hX;have HS:Hid (∀ w',Below w.heap.size w w'->w'.cell? ⟨b,off+k,none⟩=some (.string X)):=fun w' h=>by rw [<-HXk.out];exact HX.out w' h k hlt
       go_wp2_with fail
       go_loopw [11,12,14] (fun bv cv iv wr2=>∃ (B:ByteArray) (C j:Nat),j<=X.size - 3/\iv=.int .i64 j/\bv=.string B/\cv=.int .i64 C/\Hid (Tr.bsR xs d X (B0,C0) j=(B,C))/\B.size<=4/\C<=100/\Tr.CM wr2 w.heap.size 6144 (Tr.ct xs)/\Below w.heap.size w wr2) (fun _ _ iv _=>X.size - 3 - (intOf iv).toNat)
       case atStart=>exact ⟨B0,C0,0,by omega,rfl,rfl,rfl,rfl,hB0,hC00,hC0,B1⟩
       case round =>
        clear hC0 B1;obtain ⟨B,C,j,hj2,rfl,rfl,rfl,HL,hB4,hC1,hC0,B2⟩:=hrel;have c1:=HS.out _ B2;by_cases hjl:j<X.size - 3
        ·have e2:decide ((j:Int)+4<=(X.size:Int))=true:=zdT (by omega);have hji:(j:Int)+4<=(X.size:Int):=by omega
         have hjn:j+4<=X.size:=by omega
         have hj5:(j:Int)<=512:=by omega
         obtain ⟨P,hP⟩:∃ P,X.extract j (j+4)=P:=⟨_,rfl⟩
         have HP:Hid (Tr.pc X j=P):=hP;have hP4:Hid (P.size=4):=by show _=_;rw [<-HP.out];exact Tr.Zet hjl
         have hkey:keyOf Tryz.prog 9 (.string (X.extract j (j+4)))=some (Tr.kl P):=by rw [hP];exact keyOf_string_mk Tryz.underlying9 (by rw [hP4.out];decide)
         have hC9:Hid (Tr.CM wr w.heap.size 6144 (Tr.ct xs)):=hC0;obtain ⟨D,hown,hD2,hD3,hD4⟩:=hC0;have hatC:=Tr.CM.at_f hD3 P hP4.out;have hcl:=Tr.ZjN xs P xs.length
         change Tr.ct xs P<=_ at hcl
         have c2:∀ w,Calls Tryz.prog 110 #[.string (X.extract j (j+4)),.string d] w fun e w'=>e=.returned (.bool (Tr.st P d))/\Below w.heap.size w w':=fun w=>by rw [hP];exact ZlC P d w (by rw [hP4.out];omega) (by omega)
         obtain ⟨n,hnn⟩:∃ n,Tr.ct xs P=n:=⟨_,rfl⟩
         rw [hnn] at hatC hcl;have HNN:Hid (Tr.ct xs P=n):=hnn;have hni:(n:Int)<=12:=by omega
         have hCi:(C:Int)<=100:=by omega
         have HBL:Hid (Tr.bl P B=Op.bytesLess (X.extract j (j+4)).toList B.toList):=by show _=_;rw [hP];rfl
         clear hnn hP hD2 hD3 hD4;by_cases hA:C<n
         ·have hA':(C:Int)<(n:Int):=by omega
          have dA:decide ((C:Int)<(n:Int))=true:=zdT hA'
          cases hs:Tr.st P d with
          | false =>
           have HBS:Hid (Tr.bs xs d (B,C) P=(P,n)):=by show _=_;rw [Tr.ZrH (.inl (by rw [HNN.out];exact hA)) hs,HNN.out]
           rw [hs] at c2;clear hs
           go_wp2_with (first
            | (at_lookup;refine wpList_lookup_own_int _ rfl _ _ 140 rfl 9 3 .i64 keyS Tryz.underlying140 Tryz.underlying3 (ZbW _) w.heap.size 6144 _ rfl hown _ _ rfl hkey ?_;intro c hat hwc;obtain rfl:=hatC c hat;clear hat hwc)
            | fail)
           refine (c2 _).mono ?_;rintro e w2 ⟨rfl,G⟩;have B3:=bch B2 G (nl _);have hC2:Tr.CM w2 w.heap.size 6144 (Tr.ct xs):=Tr.CM.below hC9.out G;go_wp2_with fail
           go_roundw
           case rel=>exact ⟨P,n,j+1,by omega,by go_num,by rw [show X.extract j (j+4)=P from HP.out],rfl,by show Tr.bsR _ _ _ _ (j+1)=_;rw [Tr.bsR,HL.out,HP.out,HBS.out],by rw [hP4.out];omega,by omega,hC2,B3⟩
           case measure=>simp [intOf];omega
          | true =>
           have HBS:Hid (Tr.bs xs d (B,C) P=(B,C)):=Tr.Zom (.inr hs);rw [hs] at c2;clear hs
           go_wp2_with (first
            | (at_lookup;refine wpList_lookup_own_int _ rfl _ _ 140 rfl 9 3 .i64 keyS Tryz.underlying140 Tryz.underlying3 (ZbW _) w.heap.size 6144 _ rfl hown _ _ rfl hkey ?_;intro c hat hwc;obtain rfl:=hatC c hat;clear hat hwc)
            | fail)
           refine (c2 _).mono ?_;rintro e w2 ⟨rfl,G⟩;have B3:=bch B2 G (nl _);have hC2:Tr.CM w2 w.heap.size 6144 (Tr.ct xs):=Tr.CM.below hC9.out G;go_wp2_with fail
           go_roundw
           case rel=>exact ⟨B,C,j+1,by omega,by go_num,rfl,rfl,by show Tr.bsR _ _ _ _ (j+1)=_;rw [Tr.bsR,HL.out,HP.out,HBS.out],hB4,hC1,hC2,B3⟩
           case measure=>simp [intOf];omega
         ·have hA':¬ (C:Int)<(n:Int):=by omega
          have dA:decide ((C:Int)<(n:Int))=false:=dF hA';by_cases hE:n=C
          ·subst hE;by_cases h2:1<n
           ·have h2':(1:Int)<(n:Int):=by omega
            have d2:decide ((1:Int)<(n:Int))=true:=zdT h2'
            cases hbl:Tr.bl P B with
            | true =>
             have hbl2:=hbl;rw [HBL.out] at hbl2
             cases hs:Tr.st P d with
             | false =>
              have HBS:Hid (Tr.bs xs d (B,n) P=(P,n)):=by show _=_;rw [Tr.ZrH (.inr ⟨HNN.out,by rw [HNN.out];exact h2,hbl⟩) hs,HNN.out]
              rw [hs] at c2;clear hs hbl
              go_wp2_with (first
               | (at_lookup;refine wpList_lookup_own_int _ rfl _ _ 140 rfl 9 3 .i64 keyS Tryz.underlying140 Tryz.underlying3 (ZbW _) w.heap.size 6144 _ rfl hown _ _ rfl hkey ?_;intro c hat hwc;obtain rfl:=hatC c hat;clear hat hwc)
               | fail)
              refine (c2 _).mono ?_;rintro e w2 ⟨rfl,G⟩;have B3:=bch B2 G (nl _);have hC2:Tr.CM w2 w.heap.size 6144 (Tr.ct xs):=Tr.CM.below hC9.out G;go_wp2_with fail
              go_roundw
              case rel=>exact ⟨P,n,j+1,by omega,by go_num,by rw [show X.extract j (j+4)=P from HP.out],rfl,by show Tr.bsR _ _ _ _ (j+1)=_;rw [Tr.bsR,HL.out,HP.out,HBS.out],by rw [hP4.out];omega,by omega,hC2,B3⟩
              case measure=>simp [intOf];omega
             | true =>
              have HBS:Hid (Tr.bs xs d (B,n) P=(B,n)):=Tr.Zom (.inr hs);rw [hs] at c2;clear hs hbl
              go_wp2_with (first
               | (at_lookup;refine wpList_lookup_own_int _ rfl _ _ 140 rfl 9 3 .i64 keyS Tryz.underlying140 Tryz.underlying3 (ZbW _) w.heap.size 6144 _ rfl hown _ _ rfl hkey ?_;intro c hat hwc;obtain rfl:=hatC c hat;clear hat hwc)
               | fail)
              refine (c2 _).mono ?_;rintro e w2 ⟨rfl,G⟩;have B3:=bch B2 G (nl _);have hC2:Tr.CM w2 w.heap.size 6144 (Tr.ct xs):=Tr.CM.below hC9.out G;go_wp2_with fail
              go_roundw
              case rel=>exact ⟨B,n,j+1,by omega,by go_num,rfl,rfl,by show Tr.bsR _ _ _ _ (j+1)=_;rw [Tr.bsR,HL.out,HP.out,HBS.out],hB4,hC1,hC2,B3⟩
              case measure=>simp [intOf];omega
            | false =>
             have HBS:Hid (Tr.bs xs d (B,n) P=(B,n)):=Tr.Zom (.inl (by rw [HNN.out,hbl];simp));rw [HBL.out] at hbl;clear c2
             go_wp2_with (first
              | (at_lookup;refine wpList_lookup_own_int _ rfl _ _ 140 rfl 9 3 .i64 keyS Tryz.underlying140 Tryz.underlying3 (ZbW _) w.heap.size 6144 _ rfl hown _ _ rfl hkey ?_;intro c hat hwc;obtain rfl:=hatC c hat;clear hat hwc)
              | fail)
             go_roundw
             case rel=>exact ⟨B,n,j+1,by omega,by go_num,rfl,rfl,by show Tr.bsR _ _ _ _ (j+1)=_;rw [Tr.bsR,HL.out,HP.out,HBS.out],hB4,hC1,hC9.out,B2⟩
             case measure=>simp [intOf];omega
           ·have h2':¬ (1:Int)<(n:Int):=by omega
            have d2:decide ((1:Int)<(n:Int))=false:=dF h2';have HBS:Hid (Tr.bs xs d (B,n) P=(B,n)):=Tr.Zom (.inl (by rw [HNN.out];omega));clear c2
            go_wp2_with (first
             | (at_lookup;refine wpList_lookup_own_int _ rfl _ _ 140 rfl 9 3 .i64 keyS Tryz.underlying140 Tryz.underlying3 (ZbW _) w.heap.size 6144 _ rfl hown _ _ rfl hkey ?_;intro c hat hwc;obtain rfl:=hatC c hat;clear hat hwc)
             | fail)
            go_roundw
            case rel=>exact ⟨B,n,j+1,by omega,by go_num,rfl,rfl,by show Tr.bsR _ _ _ _ (j+1)=_;rw [Tr.bsR,HL.out,HP.out,HBS.out],hB4,hC1,hC9.out,B2⟩
            case measure=>simp [intOf];omega
          ·have hE':¬ (n:Int)=(C:Int):=by omega
           have d2:decide ((n:Int)=(C:Int))=false:=decide_eq_false hE';have d3:((n:Int) == (C:Int))=false:=by simpa using hE'
           have HBS:Hid (Tr.bs xs d (B,C) P=(B,C)):=Tr.Zom (.inl (by rw [HNN.out];omega));clear c2
           go_wp2_with (first
            | (at_lookup;refine wpList_lookup_own_int _ rfl _ _ 140 rfl 9 3 .i64 keyS Tryz.underlying140 Tryz.underlying3 (ZbW _) w.heap.size 6144 _ rfl hown _ _ rfl hkey ?_;intro c hat hwc;obtain rfl:=hatC c hat;clear hat hwc)
            | fail)
           go_roundw
           case rel=>exact ⟨B,C,j+1,by omega,by go_num,rfl,rfl,by show Tr.bsR _ _ _ _ (j+1)=_;rw [Tr.bsR,HL.out,HP.out,HBS.out],hB4,hC1,hC9.out,B2⟩
           case measure=>simp [intOf];omega
        ·have e2:decide ((j:Int)+4<=(X.size:Int))=false:=dF (by omega);have hj5:(j:Int)<=512:=by omega
         have HT2:Hid (Tr.bsT xs d (k+1)=(B,C)):=by
          show _=_;rw [Tr.bsT,HXk.out,HT.out,show X.size - 3=j by omega];exact HL.out
         go_wp2_with fail
         go_roundw
         case rel=>exact ⟨B,C,k+1,by omega,by go_num,rfl,rfl,HT2,hB4,hC1,hC0,B2⟩
         case measure=>simp [intOf];omega
      ·obtain rfl:k=xs.length:=by omega
       have d1:decide ((xs.length:Int)<(xs.length:Int))=false:=by simp
       have HBB:Hid (Tr.best xs d=B0):=by show _=_;rw [Tr.best,HT.out]
       rcases Tr.Znd xs d with hz | hz
       ·have HN:Hid (d=R):=by
         have h9:=HRd.out;rw [Tr.ZfG hz] at h9;exact h9
        rw [HBB.out] at hz;obtain rfl:=Tr.ZmA hz;clear hz;go_wp2_with fail
        go_ret
        exact ⟨by rw [HN.out];rfl,B1⟩
       ·obtain ⟨g,rfl⟩:∃ g,f=g+1:=⟨f - 1,by have:=Hf.out;omega⟩
        have HN:Hid (Tr.tro xs size.toNat g (B0++d)=R):=by
         have h9:=HRd.out;rw [Tr.Zkp (by omega) hz,HBB.out] at h9;exact h9
        rw [HBB.out] at hz;have hXd:(B0++d).size=4+d.size:=by rw [ByteArray.size_append,hz]
        have hne:B0.toList.isEmpty=false:=Tr.ZZ (by omega);have hne2:(B0.toList == [])=false:=by rw [<-hne];cases B0.toList <;> rfl
        have hf1:Hid (4*g+(B0++d).size=260):=by have:=Hf.out;show 4*g+_=260;omega
        have hzz:Hid (B0.size=4):=hz;clear hz;go_wp2_with fail
        go_roundw
        case rel=>exact ⟨B0++d,g,rfl,HN,hf1,by omega,hC0,B1⟩
        case measure=>simp [Tr.bsz];have:=hzz.out;omega
    ·have e1:decide ((d.size:Int)+4<=size)=false:=dF hfit
     have HN:Hid (d=R):=by
      have h9:=HRd.out;rw [Tr.Zjn (by omega)] at h9;exact h9
     go_wp2_with fail
     go_ret
     exact ⟨by rw [HN.out];rfl,B1⟩
theorem Ztn (size:Nat) (f:Nat):Tr.tro [] size f ⟨#[]⟩=⟨#[]⟩:=Tr.ZfG rfl
theorem Zio (size:Int) (ad:Option Addr) (cap:Nat) (w:World) :
 Calls Tryz.prog 70 #[.slice ad 0 cap,.int .i64 size] w fun e w'=>e=.returned (.string ⟨#[]⟩)/\Below w.heap.size w w':=by
 have hmm:=@run_makeMap Tryz.prog;go_enter Tryz.func70,Tryz.ntmps70
 go_wp2_with fail
 go_loopw [6] (fun i wr=>i=.int .i64 0/\Below w.heap.size w wr) (fun i _=>0)
 case atStart=>exact ⟨rfl,(bR _ _).alloc (nl _) _⟩
 case round =>
  obtain ⟨rfl,B1⟩:=hrel;go_wp2_with fail
  go_loopw [10] (fun dv wr=>dv=.string ⟨#[]⟩/\Below w.heap.size w wr) (fun _ _=>0)
  case atStart=>exact ⟨rfl,B1⟩
  case round =>
   clear B1;obtain ⟨rfl,B1⟩:=hrel;by_cases hfit:(4:Int)<=size
   ·have e1:decide ((4:Int)<=size)=true:=zdT hfit;go_wp2_with fail
    go_loopw [11,12,13] (fun bv cv iv wr=>iv=.int .i64 0/\bv=.string ⟨#[]⟩/\Below w.heap.size w wr) (fun _ _ _ _=>0)
    case atStart=>exact ⟨rfl,rfl,B1⟩
    case round =>
     clear B1;obtain ⟨rfl,rfl,B1⟩:=hrel;go_wp2_with fail
     go_ret
     exact ⟨rfl,B1⟩
   ·have e1:decide ((4:Int)<=size)=false:=dF hfit;go_wp2_with fail
    go_ret
    exact ⟨rfl,B1⟩
theorem Ziw (xs:List ByteArray) (size:Int) (ad:Option Addr) (cap:Nat) (w:World) (hx:TxSl w ad xs) (hn:xs.length<=12) (hB:∀ i,(Tr.xa xs i).size<=512) (h0:0<=size) (h1:size<=256) :
 Calls Tryz.prog 70 #[.slice ad xs.length cap,.int .i64 size] w fun e w'=>e=.returned (.string (Tr.trn xs size.toNat))/\Below w.heap.size w w':=by
 rcases hx with rfl | ⟨b,off,rfl,h2⟩
 ·rw [Tr.trn,Ztn];exact Zio size ad cap w
 ·exact Zhe xs size b off cap w h2 hn hB h0 h1
theorem ZhB (ad af:Option Addr) (cd cf:Nat) (a:Ar.A) (size:Int) (w:World) (h:ArV w ad af a) (hs:SaneA a) (hE:Ar.retE a size=0) :
 Calls Tryz.prog 28 #[av ad cd af cf a,.int .i64 size] w fun e w'=>ArSaid w ⟨Ar.retD a size,a.files.map (Ar.reF a size)⟩ 0 e w':=by
 obtain ⟨hc,hzz1,hzz2,h4⟩:=Ar.ZcU hE;obtain ⟨i0,hi,hz0,hz1,hz2⟩:=info_parts (P:=Tryz.prog) (e:=9) (z:=.string ⟨#[]⟩) (size:=1) (bytes:=16) (by kernel_rfl);obtain ⟨j0,gi,gz0,gz1,gz2⟩:=info_parts (P:=Tryz.prog) (e:=46) (z:=.agg #[.string ⟨#[]⟩,.int .i64 0,.int .i64 0,.int .i64 0,.string ⟨#[]⟩]) (size:=5) (bytes:=56) (by kernel_rfl);obtain ⟨m1,m2,m3⟩:=Ar.Zw.1 (Ar.Zd.1 hc).1;have C1:Hid (∀ w',Below w.heap.size w w'->Calls Tryz.prog 19 #[av ad cd af cf a] w' fun e w2=>e=.returned (.int .i64 (Ar.chk a))/\Below w'.heap.size w' w2):=fun w' h9=>Zs ad af cd cf a w' (h.below h9) hs
 have C2:Hid (∀ w',Calls Tryz.prog 57 #[.int .i64 size,.int .i64 0,.int .i64 256] w' fun e w2=>e=.returned (.bool (decide (0<=size/\size<=256)))/\w2=w'):=fun w'=>ZJ size 0 256 w'
 have C3:Hid (∀ k,k<a.files.length->∀ w',Below w.heap.size w w'->Calls Tryz.prog 65 #[av ad cd af cf a,.int .i64 (k:Nat)] w' fun e w2=>e=.returned (.string (Ar.tx a.dicts (Ar.fa a.files k)))/\Below w'.heap.size w' w2):=fun k hk w' h9=>Zln ad af cd cf a k w' (h.below h9) hs hc hk
 have hT:=Ar.Zcx hc;have HTl:Hid ((Ar.txs a).length=a.files.length):=by show _=_;unfold Ar.txs;rw [List.length_map]
 have C4:Hid (∀ w' adt capt,TxSl w' adt (Ar.txs a)->Calls Tryz.prog 70 #[.slice adt a.files.length capt,.int .i64 size] w' fun e w2=>e=.returned (.string (Tr.trn (Ar.txs a) size.toNat))/\Below w'.heap.size w' w2):=fun w' adt capt h9=>by
  have:=Ziw (Ar.txs a) size adt capt w' h9 hT.1 (fun i=>by
   by_cases hi:i<(Ar.txs a).length
   ·have e:Tr.xa (Ar.txs a) i=(Ar.txs a)[i]:=by simp [Tr.xa,hi]
    rw [e];exact hT.2 _ (List.getElem_mem hi)
   ·have e:Tr.xa (Ar.txs a) i=⟨#[]⟩:=by simp [Tr.xa,hi]
    rw [e];exact Nat.zero_le _) hzz1 hzz2
  rw [HTl.out] at this;exact this
 have hmr:=Ar.Zgr hE;have hrl:(Ar.retD a size).length=a.dicts.length+1:=by unfold Ar.retD;rw [List.length_append];rfl
 have hrm:(Ar.retD a size).map Value.string=a.dicts.map Value.string++[.string (Tr.trn (Ar.txs a) size.toNat)]:=by unfold Ar.retD;rw [List.map_append];rfl
 have C5:Hid (∀ w' adx cdx afx cfx nfx m,m<a.files.length->TxSl w' adx (Ar.retD a size)->Calls Tryz.prog 58 #[.agg #[.slice adx (a.dicts.length+1) cdx,.slice afx nfx cfx],.string (Ar.fa a.files m).name,.string (Ar.tx a.dicts (Ar.fa a.files m)),.int .i64 ((a.dicts.length:Int)+1)] w' fun e w2=>e=.returned (fv (Ar.reF a size (Ar.fa a.files m)))/\Below w'.heap.size w' w2):=fun w' adx cdx afx cfx nfx m hm hx=>by
  have hmem:Ar.fa a.files m ∈ a.files:=by rw [Ar.ZaJ hm];exact List.getElem_mem hm
  have:=Zfq adx afx cdx cfx ⟨Ar.retD a size,List.replicate nfx Ar.fz⟩ (Ar.fa a.files m).name (Ar.tx a.dicts (Ar.fa a.files m)) ((a.dicts.length:Int)+1) w' hx (by show (Ar.retD a size).length<=_;omega) (by show Ar.has (Ar.retD a size) _=true;unfold Ar.has;rw [hrl];exact decide_eq_true ⟨by omega,by omega⟩) (by have:=Ar.ZaL hmr ((a.dicts.length:Int)+1);exact this) (Ar.Zdq hc hmem);unfold av at this;simp only [hrl,List.length_replicate] at this;exact this
 have HDn:Hid (∀ w',Below w.heap.size w w'->(a.dicts.length=0\/∃ b,ad=some b/\∀ j u,(a.dicts.map Value.string)[j]?=some u->w'.cell? (b.add j)=some u)):=fun w' h9=>(h.ds.below h9).news
 have HFl:Hid (∀ k,k<a.files.length->∃ b off,af=some ⟨b,off,none⟩/\b<w.heap.size/\Hid (∀ w',Below w.heap.size w w'->w'.cell? ⟨b,off+k*5,none⟩=some (.string (Ar.fa a.files k).name))):=fun k hk=>by
  obtain ⟨b,off,h1,h2,h3⟩:=h.fs.at hk;exact ⟨b,off,h1,h2,fun w' h9=>(h3.below h9 h2).c0⟩
 have HDl:Hid ((a.dicts.map Value.string).length=a.dicts.length*1):=by show _=_;simp
 have HD1:Hid (∀ u ∈ a.dicts.map Value.string,u.oneCell'=true):=fun u hu=>by obtain ⟨x,_,rfl⟩:=List.mem_map.1 hu;rfl
 have HTK:Hid (∀ k,k<a.files.length->Ar.txK a (k+1)=Ar.txK a k++[Ar.tx a.dicts (Ar.fa a.files k)]):=fun k hk=>Ar.Zjj hk
 have HTA:Hid (Ar.txK a a.files.length=Ar.txs a):=Ar.ZoQ a;have HT5:Hid (∀ k,k<a.files.length->(Ar.tx a.dicts (Ar.fa a.files k)).size<=512):=fun k hk=>Ar.Zdq hc (by rw [Ar.ZaJ hk];exact List.getElem_mem hk)
 have HTx:Hid (∀ k,k<a.files.length->Tr.xa (Ar.txs a) k=Ar.tx a.dicts (Ar.fa a.files k)):=fun k hk=>by unfold Ar.txs;simp [Tr.xa,Ar.fa,hk]
 have HOw:Hid (∀ lo w' v,w'.ownsRow lo 9 1 v a.files.length ((Ar.txs a).map Value.string)->∃ adt capt,v=.slice adt a.files.length capt/\TxSl w' adt (Ar.txs a)):=fun lo w' v h9=>by
  rw [<-HTl.out] at h9 |-
  obtain ⟨adt,capt,h1,_,h2⟩:=Zex h9;exact ⟨adt,capt,h1,TxFar.sl h2⟩
 have HRx:Hid (∀ lo w' adx cdx,w'.ownsRow lo 9 1 (.slice adx (a.dicts.length+1) cdx) (a.dicts.length+1) (a.dicts.map Value.string++[.string (Tr.trn (Ar.txs a) size.toNat)])->TxSl w' adx (Ar.retD a size)):=fun lo w' adx cdx h9=>by
  rw [<-hrm,<-hrl] at h9;obtain ⟨ad2,cap2,e2,_,h5⟩:=Zex h9;simp only [Value.slice.injEq] at e2;obtain ⟨rfl,_,rfl⟩:=e2;exact TxFar.sl h5
 have hQ1:Hid (∀ v1 v2 w',w'.ownsRow w.heap.size 9 1 v1 (a.dicts.length+1) (a.dicts.map Value.string++[.string (Tr.trn (Ar.txs a) size.toNat)])->w'.ownsRow w.heap.size 46 5 v2 a.files.length (fcs ((a.files.take a.files.length).map (Ar.reF a size)))->(∀ j,v1.ownBlock=some j->v2.ownBlock ≠ some j)->Below w.heap.size w w'->ArSaid w ⟨Ar.retD a size,a.files.map (Ar.reF a size)⟩ 0 (.returned (.tuple #[.agg #[v1,v2],.int .i64 0])) w'):=fun v1 v2 w' k1 k2 k3 k4=>by
  rw [List.take_length] at k2;rw [<-hrm,<-hrl] at k1;exact ⟨v1,v2,rfl,⟨k1,by show w'.ownsRow _ _ _ _ (a.files.map (Ar.reF a size)).length _;rw [List.length_map];exact k2,k3⟩,k4⟩
 generalize ArSaid w ⟨Ar.retD a size,a.files.map (Ar.reF a size)⟩ 0=Q at *;have HFS:Hid (∀ k,k<a.files.length->fcs ((a.files.take (k+1)).map (Ar.reF a size))=fcs ((a.files.take k).map (Ar.reF a size))++[.string (Ar.reF a size (Ar.fa a.files k)).name,.int .i64 (Ar.reF a size (Ar.fa a.files k)).dict,.int .i64 (Ar.reF a size (Ar.fa a.files k)).size,.int .i64 (Ar.reF a size (Ar.fa a.files k)).sum,.string (Ar.reF a size (Ar.fa a.files k)).blk]):=fun k hk=>by rw [Ar.ZQ hk,List.map_append,Zz];rfl
 have HF0:Hid (fcs ((a.files.take 0).map (Ar.reF a size))=[]):=rfl;rw [hc] at C1;rw [zdT ⟨hzz1,hzz2⟩] at C2;unfold av at C1 C3 |-
 unfold fv at C5;clear h hs hE hc m3 hT hmr hrl hrm;generalize Tr.trn (Ar.txs a) size.toNat=X at *;generalize Ar.retD a size=rd at *;generalize Ar.reF a size=rf at *
 obtain ⟨D,hDD⟩:∃ D,a.dicts.length=D:=⟨_,rfl⟩
 obtain ⟨N,hNN⟩:∃ N,a.files.length=N:=⟨_,rfl⟩
 simp only [hDD,hNN] at C1 C3 C4 C5 HDn HFl HDl HTK HTA HT5 HTx HOw HRx hQ1 HFS HTl m1 m2 h4 |-
 clear hDD hNN;generalize a.dicts.map Value.string=ds at *;generalize Ar.fa a.files=fa at *;generalize Ar.tx a.dicts=tx at *;have hDi:(D:Int)<=4:=by omega
 have hNi:(N:Int)<=12:=by omega
 have d4:decide ((4:Int)<=(D:Int))=false:=dF (by omega);have d4':decide (4<=D)=false:=dF (by omega);go_enter Tryz.func28,Tryz.ntmps28
 go_wp2_with fail
 refine (C1.out _ (Fr.start w _ _).b).mono ?_;rintro e w1 ⟨rfl,G1⟩;have F1:=(Fr.start w _ _).next G1;clear G1 C1;obtain ⟨b,a0,a1,r0,r1,z0,z1,hz⟩:=id F1;go_wp2_with fail
 refine (C2.out _).mono ?_;rintro e w3 ⟨rfl,rfl⟩;clear C2;go_wp2_with fail
 clear b a0 a1 r0 r1 z0 z1;go_loopw [7,8] (fun l i wr=>∃ (k:Nat),k<=N/\i=.int .i64 k/\wr.ownsRow w3.heap.size 9 1 l k ((Ar.txK a k).map Value.string)/\Below w3.heap.size w3 wr) (fun _ i _=>N - (intOf i).toNat)
 case atStart=>exact ⟨0,by omega,rfl,⟨rfl,.inl ⟨rfl,rfl⟩⟩,bR _ _⟩
 case round =>
  rename_i vl _
  obtain ⟨k,hk2,rfl,hrow,B1⟩:=hrel;have F2:=F1.next B1;obtain ⟨B2,a0,a1,r0,r1,z0,z1,hzF⟩:=id F2;by_cases hlt:k<N
  ·have e1:decide ((k:Int)<(N:Int))=true:=zdT (by omega);have e1':decide (k<N)=true:=zdT hlt;have hki:(k:Int)<(N:Int):=by omega
   have c3:=C3.out k hlt wr B2;have HN:=HTK.out k hlt;have hT5:=HT5.out k hlt;generalize tx (fa k)=T at *;go_wp2_with fail
   refine c3.mono ?_;rintro e w4 ⟨rfl,G⟩;have hrow4:=Zh hrow G;have B4:Below w3.heap.size w3 w4:=bch B1 G (nl _);have hz4:=B4.size;clear G hrow c3 a0 a1 r0 r1 z0 z1
   go_wp2_with (first
    | (at_builtin;refine wpList_append_own _ rfl _ _ 22 rfl w3.heap.size 9 i0 (.string ⟨#[]⟩) 1 16 Tryz.underlying22 hi hz0 hz1 hz2 rfl (by decide) _ _ _ rfl (hrow4.alloc _) ⟨w4.heap.size,0,none⟩ 1 1 [.string T] rfl rfl (cell_one_new _ _ _) (by simp [Value.oneCell']) (by unfold maxLen at *;omega) (by omega) (by simp;omega) ?_;intro v' w5 hown' hg5 hnil5;go_frame)
    | fail)
   have B5:Below w3.heap.size w3 w5:=(B4.alloc B4.size (.cells #[.string T] 9 (0,0))).grown hg5 (by simp;omega) (fun j hj=>(hrow4.lt j hj).1);go_roundw
   case rel=>exact ⟨k+1,by omega,by go_num,by rw [HN,List.map_append];exact hown',B5⟩
   case measure=>simp [intOf];omega
  ·obtain rfl:k=N:=by omega
   have e1:decide ((k:Int)<(k:Int))=false:=by simp
   rw [HTA.out] at hrow;obtain ⟨adt,capt,rfl,htx⟩:=HOw.out _ _ _ hrow;have hzw:w.heap.size<wr.heap.size:=by omega
   have O0:=Zdb wr wr.heap.size 9 1 (nl _);have hD2:=HDn.out _ (B2.alloc (by have:=B2.size;omega) (.cells #[] 9 (0,0)));have hds1:=HDl.out;have hds2:=HD1.out
   go_wp2_with (first
    | (at_builtin;refine Zad rfl _ _ 22 rfl wr.heap.size 9 i0 (.string ⟨#[]⟩) 1 16 Tryz.underlying22 hi hz0 hz1 hz2 rfl (by decide) wr.heap.size 0 0 [] rfl O0 ad D cd ds rfl hds1 hD2 hds2 (by unfold maxLen;omega) (by omega) (by simp) _ rfl ?_;intro g cp w5 hown5 hgrow5 hat5)
    | fail)
   have BX:Below wr.heap.size wr w5:=((Below.refl _ _).alloc (Nat.le_refl _) _).grown hgrow5 (by simp) (fun j hj=>by simp at hj;omega);simp only [Nat.zero_add,List.nil_append] at hown5 |-
   clear O0 hD2 hds1 hds2 hgrow5 hat5 HDn HDl HD1;refine (C4.out w5 adt capt (htx.below BX)).mono ?_;rintro e w6 ⟨rfl,G6⟩;have hown6:=Zh hown5 G6;have B6:Below wr.heap.size wr w6:=bch BX G6 (nl _);have hz6:=B6.size;clear G6 hown5 BX C4 a0 a1 r0 r1 z0 z1
   go_wp2_with (first
    | (at_builtin;refine wpList_append_lies _ rfl _ _ 22 rfl wr.heap.size 9 i0 (.string ⟨#[]⟩) 1 16 Tryz.underlying22 hi hz0 hz1 hz2 rfl (by decide) (.slice (some ⟨g,0,none⟩) D cp) D ds rfl (hown6.alloc _) ⟨w6.heap.size,0,none⟩ 1 1 [.string X] rfl rfl (cell_one_new _ _ _) (by simp [Value.oneCell']) (by decide) (by unfold maxLen;omega) (by omega) (by simp;omega) _ rfl ?_;intro g2 cp2 w7 hown7 hgrow7 hat7 hlt7)
    | fail)
   have B7:Below wr.heap.size wr w7:=(B6.alloc B6.size (.cells #[.string X] 9 (0,0))).grown hgrow7 (by simp;omega) (fun j hj=>(hown6.lt j hj).1);have S0:=CpS.new1 B7 B7.size hown7;clear hgrow7 hat7 hlt7 hown7 hown6 B6 hz6 B7;generalize (w7.alloc (.cells #[.slice (some ⟨g2,0,none⟩) (D+1) cp2,.slice none 0 0] 25 (0,0)))=w8 at *;generalize w7.heap.size=C at *;generalize hw4:wr=w4 at *;clear hw4;go_loopw [10] (fun i wr=>∃ (m:Nat) (v2:Value),m<=k/\i=.int .i64 m/\CpS w4 wr C w4.heap.size (.slice (some ⟨g2,0,none⟩) (D+1) cp2) v2 (D+1) m (ds++[.string X]) (fcs ((a.files.take m).map rf))) (fun i _=>k - (intOf i).toNat)
   case atStart=>exact ⟨0,_,by omega,rfl,by rw [HF0.out];exact S0⟩
   case round =>
    obtain ⟨m,v2,hm2,rfl,S1⟩:=hrel;have F4:=F2.keep S1.bel hzF;obtain ⟨B4,a0,a1,r0,r1,z0,z1,hz4⟩:=id F4;by_cases hlm:m<k
    ·have e2:decide ((m:Int)<(k:Int))=true:=zdT (by omega);have e2':decide (m<k)=true:=zdT hlm;have hmi:(m:Int)<(k:Int):=by omega
     obtain ⟨b,off,rfl,hbw,HFw⟩:=HFl.out m hlm;have c0:=HFw.out wr B4;have hbl:b<wr.heap.size:=nT hbw B4.size;obtain ⟨bt,ot,rfl,hbt,htc⟩:=htx.at (i:=m) (by rw [HTl.out];exact hlm)
     rw [HTx.out m hlm] at htc;have HT2:Hid (∀ w',Below w4.heap.size w4 w'->w'.cell? ⟨bt,ot+m,none⟩=some (.string (tx (fa m)))):=fun w' h9=>(h9.cell (p:=⟨bt,ot+m,none⟩) hbt).trans htc
     clear htc;have hbtw:bt<wr.heap.size:=nT hbt S1.bel.size;have c1S:=S1.c1;have c0S:=S1.c0;have f1S:=S1.f1;have hbC:=S1.hb;have hlC:=S1.hC;obtain ⟨p2,q2,rfl,_⟩:=Zl S1.o2;have HN:=HFS.out m hlm;have htd:=HRx.out _ _ _ _ S1.o1;have CP:Hid (∀ w',Below wr.heap.size wr w'->Calls Tryz.prog 58 #[.agg #[.slice (some ⟨g2,0,none⟩) (D+1) cp2,.slice p2 m q2],.string (fa m).name,.string (tx (fa m)),.int .i64 ((D:Int)+1)] w' fun e w2=>e=.returned (.agg #[.string (rf (fa m)).name,.int .i64 (rf (fa m)).dict,.int .i64 (rf (fa m)).size,.int .i64 (rf (fa m)).sum,.string (rf (fa m)).blk])/\Below w'.heap.size w' w2):=fun w' h9=>C5.out w' _ _ _ _ _ m hlm (htd.below h9)
     clear htd;generalize (rf (fa m)).name=n0 at *;generalize (rf (fa m)).dict=n1 at *;generalize (rf (fa m)).size=n2 at *;generalize (rf (fa m)).sum=n3 at *;generalize (rf (fa m)).blk=n4 at *;generalize (fa m).name=f0 at *;generalize tx (fa m)=tm at *;go_wp2_with fail
     have HSS:Hid (∀ w',Below w4.heap.size w4 w'->w'.cell? ⟨C,0,none⟩=some (.slice (some ⟨g2,0,none⟩) (D+1) cp2)->(fun w'=>w'.cell? ⟨w.heap.size,1,none⟩=some (.slice (some ⟨b,off,none⟩) k cf)/\w'.cell? ⟨b,off+m*5,none⟩=some (.string f0)/\w'.cell? ⟨bt,ot+m,none⟩=some (.string tm)/\w'.cell? ⟨C,0,none⟩=some (.slice (some ⟨g2,0,none⟩) (D+1) cp2)) w'):=fun w' h9 h8=>⟨(F2.keep h9 hzF).a1,HFw.out w' (F2.keep h9 hzF).b,HT2.out w' h9,h8⟩
     refine wp_region_held_drew (S:=fun w'=>w'.cell? ⟨w.heap.size,1,none⟩=some (.slice (some ⟨b,off,none⟩) k cf)/\w'.cell? ⟨b,off+m*5,none⟩=some (.string f0)/\w'.cell? ⟨bt,ot+m,none⟩=some (.string tm)/\w'.cell? ⟨C,0,none⟩=some (.slice (some ⟨g2,0,none⟩) (D+1) cp2)) (by kernel_rfl) (HSS.out _ S1.bel.drew c0S) (fun hS=>?_);refine wpAnyH_take (i:=0) (fuel:=20) (v:=.pointer (some ⟨C,1,none⟩)) rfl (by kernel_rfl) (by kernel_rfl) (by kernel_rfl) (fun _ _ _ h=>h) (Or.inl ⟨by rfl,fun w' h9=>by obtain ⟨k1,k2,k3,k4⟩:=h9;go_simp⟩) hS ?_;refine wpAnyH_take (i:=3) (fuel:=19) (v:=.pointer (some ⟨w.heap.size,1,none⟩)) rfl (by kernel_rfl) (by kernel_rfl) (by kernel_rfl) (fun _ _ _ h=>h) (Or.inl ⟨by rfl,fun w' h9=>by obtain ⟨k1,k2,k3,k4⟩:=h9;go_simp⟩) hS ?_;refine wpAnyH_take (i:=4) (fuel:=18) (v:=.slice (some ⟨b,off,none⟩) k cf) rfl (by kernel_rfl) (by kernel_rfl) (by kernel_rfl) (fun _ _ _ h=>h) (Or.inl ⟨by rfl,fun w' h9=>by obtain ⟨k1,k2,k3,k4⟩:=h9;go_simp⟩) hS ?_;refine wpAnyH_take (i:=5) (fuel:=17) (v:=.int .i64 (m:Nat)) rfl (by kernel_rfl) (by kernel_rfl) (by kernel_rfl) (fun _ _ _ h=>h) (Or.inl ⟨by rfl,fun w' h9=>by obtain ⟨k1,k2,k3,k4⟩:=h9;go_simp⟩) hS ?_;refine wpAnyH_take (i:=6) (fuel:=16) (v:=.pointer (some ⟨b,off+m*5,none⟩)) rfl (by kernel_rfl) (by kernel_rfl) (by kernel_rfl) (fun _ _ _ h=>h) (Or.inl ⟨by rfl,fun w' h9=>by obtain ⟨k1,k2,k3,k4⟩:=h9;go_simp⟩) hS ?_;refine wpAnyH_take (i:=7) (fuel:=15) (v:=.pointer (some ⟨b,off+m*5,none⟩)) rfl (by kernel_rfl) (by kernel_rfl) (by kernel_rfl) (fun _ _ _ h=>h) (Or.inl ⟨by rfl,fun w' h9=>by obtain ⟨k1,k2,k3,k4⟩:=h9;go_simp⟩) hS ?_;refine wpAnyH_take (i:=8) (fuel:=14) (v:=.string f0) rfl (by kernel_rfl) (by kernel_rfl) (by kernel_rfl) (fun _ _ _ h=>h) (Or.inl ⟨by rfl,fun w' h9=>by obtain ⟨k1,k2,k3,k4⟩:=h9;go_simp⟩) hS ?_;refine wpAnyH_take (i:=9) (fuel:=13) (v:=.slice (some ⟨bt,ot,none⟩) k capt) rfl (by kernel_rfl) (by kernel_rfl) (by kernel_rfl) (fun _ _ _ h=>h) (Or.inl ⟨by rfl,fun w' h9=>by obtain ⟨k1,k2,k3,k4⟩:=h9;go_simp⟩) hS ?_;refine wpAnyH_take (i:=10) (fuel:=12) (v:=.int .i64 (m:Nat)) rfl (by kernel_rfl) (by kernel_rfl) (by kernel_rfl) (fun _ _ _ h=>h) (Or.inl ⟨by rfl,fun w' h9=>by obtain ⟨k1,k2,k3,k4⟩:=h9;go_simp⟩) hS ?_;refine wpAnyH_take (i:=11) (fuel:=11) (v:=.pointer (some ⟨bt,ot+m,none⟩)) rfl (by kernel_rfl) (by kernel_rfl) (by kernel_rfl) (fun _ _ _ h=>h) (Or.inl ⟨by rfl,fun w' h9=>by obtain ⟨k1,k2,k3,k4⟩:=h9;go_simp⟩) hS ?_;refine wpAnyH_take (i:=12) (fuel:=10) (v:=.string tm) rfl (by kernel_rfl) (by kernel_rfl) (by kernel_rfl) (fun _ _ _ h=>h) (Or.inl ⟨by rfl,fun w' h9=>by obtain ⟨k1,k2,k3,k4⟩:=h9;go_simp⟩) hS ?_;refine wpAnyH_take (i:=13) (fuel:=9) (v:=.pointer (some ⟨C,0,none⟩)) rfl (by kernel_rfl) (by kernel_rfl) (by kernel_rfl) (fun _ _ _ h=>h) (Or.inl ⟨by rfl,fun w' h9=>by obtain ⟨k1,k2,k3,k4⟩:=h9;go_simp⟩) hS ?_;refine wpAnyH_take (i:=14) (fuel:=8) (v:=.slice (some ⟨g2,0,none⟩) (D+1) cp2) rfl (by kernel_rfl) (by kernel_rfl) (by kernel_rfl) (fun _ _ _ h=>h) (Or.inl ⟨by rfl,fun w' h9=>by obtain ⟨k1,k2,k3,k4⟩:=h9;go_simp⟩) hS ?_;refine wpAnyH_take (i:=15) (fuel:=7) (v:=.int .i64 ((D:Int)+1)) rfl (by kernel_rfl) (by kernel_rfl) (by kernel_rfl) (fun _ _ _ h=>h) (Or.inl ⟨by rfl,fun w' h9=>by obtain ⟨k1,k2,k3,k4⟩:=h9;go_simp⟩) hS ?_;clear HFl HTx HTK HT5 C3 C5 HFS HRx HOw HTA HTl HF0 hQ1;refine wpAnyH_ready (rs:=[1,2]) (fuel:=6) (by kernel_rfl) (by simp) ?_;refine AllReadyH.cons rfl (fun K hK=>?_) (AllReadyH.cons rfl (fun K hK=>?_) AllReadyH.nil)
     ·go_simp
      refine hK.out _ _ hS (fun _=>?_);clear hK;refine wpAnyH_ready (rs:=[2]) (fuel:=5) (by kernel_rfl) (by simp) ?_;refine AllReadyH.cons rfl (fun K hK=>?_) AllReadyH.nil;go_simp
      refine hK.out _ _ hS (fun _=>?_);clear hK;refine wpAnyH_ready (rs:=[16]) (fuel:=4) (by kernel_rfl) (by simp) ?_;refine AllReadyH.cons rfl (fun K hK=>?_) AllReadyH.nil;go_simp
      refine (CP.out _ ((bR _ _).drew)).mono ?_;rintro e t8 ⟨rfl,G8⟩;have S2:=S1.below (Below.trans ((bR _ _).drew) G8);have c1T:=S2.c1;have hbT:=S2.hb
      have c9T:∀ o,(t8.alloc o).cell? ⟨C,1,none⟩=some (.slice p2 m q2):=(fun o=>(World.cell?_alloc_lt _ _ _ hbT).trans c1T)
      have hS8:=HSS.out _ S2.bel S2.c0;refine hK.out _ _ hS8 (fun _=>?_);clear hK;refine wpAnyH_ready (rs:=[17]) (fuel:=3) (by kernel_rfl) (by simp) ?_;refine AllReadyH.cons rfl (fun K hK=>?_) AllReadyH.nil;go_simp
      have SA:=S2.below ((Below.refl _ _).alloc (Nat.le_refl _) (.cells #[.string n0,.int .i64 n1,.int .i64 n2,.int .i64 n3,.string n4] 46 (0,0)));have hS9:=HSS.out _ SA.bel SA.c0;refine hK.out _ _ hS9 (fun _=>?_);clear hK;refine wpAnyH_ready (rs:=[18]) (fuel:=2) (by kernel_rfl) (by simp) ?_;refine AllReadyH.cons rfl (fun K hK=>?_) AllReadyH.nil;refine step_append_lies _ rfl _ _ 23 rfl w4.heap.size 46 j0 (.agg #[.string ⟨#[]⟩,.int .i64 0,.int .i64 0,.int .i64 0,.string ⟨#[]⟩]) 5 56 Tryz.underlying23 gi gz0 gz1 gz2 rfl (by decide) _ _ _ rfl (S2.o2.alloc _) ⟨t8.heap.size,0,none⟩ 1 1 [.string n0,.int .i64 n1,.int .i64 n2,.int .i64 n3,.string n4] rfl rfl (ZdR _ _ _ _ _ _ _) (one5 _ _ _ _ _) (by decide) (by unfold maxLen;omega) (by omega) (by simp;omega) _ rfl ?_;intro g7 cp7 t7 hown7 hgrow7 hat7 hlt7;obtain ⟨⟨q1,q2⟩,S4⟩:=S2.put2 hgrow7 hown7 hat7;have hM7:=S2.mid2 hgrow7;have hS7:=HSS.out _ hM7.2 hM7.1;clear hgrow7 hown7 hat7 hlt7 hM7;refine hK.out _ _ hS7 (fun _=>?_);clear hK;refine wpAnyH_ready (rs:=[19]) (fuel:=1) (by kernel_rfl) (by simp) ?_;refine AllReadyH.cons rfl (fun K hK=>?_) AllReadyH.nil;go_simp
      refine hK.out _ _ hS7 (fun _=>?_);clear hK;refine wpAnyH_ready (rs:=[20]) (fuel:=0) (by kernel_rfl) (by simp) ?_;refine AllReadyH.cons rfl (fun K hK=>?_) AllReadyH.nil;go_simp
      refine hK.out _ _ (HSS.out _ S4.bel S4.c0) (fun _=>?_);clear hK;refine ⟨by kernel_rfl,?_⟩;go_wp2_with fail
      go_roundw
      case rel=>exact ⟨m+1,_,by omega,by go_num,by rw [HN];exact S4⟩
      case measure=>simp [intOf];omega
     ·go_simp
      refine hK.out _ _ hS (fun _=>?_);clear hK;refine wpAnyH_ready (rs:=[1,16]) (fuel:=5) (by kernel_rfl) (by simp) ?_;refine AllReadyH.cons rfl (fun K hK=>?_) (AllReadyH.cons rfl (fun K hK=>?_) AllReadyH.nil)
      ·go_simp
       refine hK.out _ _ hS (fun _=>?_);clear hK;refine wpAnyH_ready (rs:=[16]) (fuel:=4) (by kernel_rfl) (by simp) ?_;refine AllReadyH.cons rfl (fun K hK=>?_) AllReadyH.nil;go_simp
       refine (CP.out _ ((bR _ _).drew)).mono ?_;rintro e t8 ⟨rfl,G8⟩;have S2:=S1.below (Below.trans ((bR _ _).drew) G8);have c1T:=S2.c1;have hbT:=S2.hb
       have c9T:∀ o,(t8.alloc o).cell? ⟨C,1,none⟩=some (.slice p2 m q2):=(fun o=>(World.cell?_alloc_lt _ _ _ hbT).trans c1T)
       have hS8:=HSS.out _ S2.bel S2.c0;refine hK.out _ _ hS8 (fun _=>?_);clear hK;refine wpAnyH_ready (rs:=[17]) (fuel:=3) (by kernel_rfl) (by simp) ?_;refine AllReadyH.cons rfl (fun K hK=>?_) AllReadyH.nil;go_simp
       have SA:=S2.below ((Below.refl _ _).alloc (Nat.le_refl _) (.cells #[.string n0,.int .i64 n1,.int .i64 n2,.int .i64 n3,.string n4] 46 (0,0)));have hS9:=HSS.out _ SA.bel SA.c0;refine hK.out _ _ hS9 (fun _=>?_);clear hK;refine wpAnyH_ready (rs:=[18]) (fuel:=2) (by kernel_rfl) (by simp) ?_;refine AllReadyH.cons rfl (fun K hK=>?_) AllReadyH.nil;refine step_append_lies _ rfl _ _ 23 rfl w4.heap.size 46 j0 (.agg #[.string ⟨#[]⟩,.int .i64 0,.int .i64 0,.int .i64 0,.string ⟨#[]⟩]) 5 56 Tryz.underlying23 gi gz0 gz1 gz2 rfl (by decide) _ _ _ rfl (S2.o2.alloc _) ⟨t8.heap.size,0,none⟩ 1 1 [.string n0,.int .i64 n1,.int .i64 n2,.int .i64 n3,.string n4] rfl rfl (ZdR _ _ _ _ _ _ _) (one5 _ _ _ _ _) (by decide) (by unfold maxLen;omega) (by omega) (by simp;omega) _ rfl ?_;intro g7 cp7 t7 hown7 hgrow7 hat7 hlt7;obtain ⟨⟨q1,q2⟩,S4⟩:=S2.put2 hgrow7 hown7 hat7;have hM7:=S2.mid2 hgrow7;have hS7:=HSS.out _ hM7.2 hM7.1;clear hgrow7 hown7 hat7 hlt7 hM7;refine hK.out _ _ hS7 (fun _=>?_);clear hK;refine wpAnyH_ready (rs:=[19]) (fuel:=1) (by kernel_rfl) (by simp) ?_;refine AllReadyH.cons rfl (fun K hK=>?_) AllReadyH.nil;go_simp
       refine hK.out _ _ hS7 (fun _=>?_);clear hK;refine wpAnyH_ready (rs:=[20]) (fuel:=0) (by kernel_rfl) (by simp) ?_;refine AllReadyH.cons rfl (fun K hK=>?_) AllReadyH.nil;go_simp
       refine hK.out _ _ (HSS.out _ S4.bel S4.c0) (fun _=>?_);clear hK;refine ⟨by kernel_rfl,?_⟩;go_wp2_with fail
       go_roundw
       case rel=>exact ⟨m+1,_,by omega,by go_num,by rw [HN];exact S4⟩
       case measure=>simp [intOf];omega
      ·go_simp
       refine (CP.out _ ((bR _ _).drew)).mono ?_;rintro e t8 ⟨rfl,G8⟩;have S2:=S1.below (Below.trans ((bR _ _).drew) G8);have c1T:=S2.c1;have hbT:=S2.hb
       have c9T:∀ o,(t8.alloc o).cell? ⟨C,1,none⟩=some (.slice p2 m q2):=(fun o=>(World.cell?_alloc_lt _ _ _ hbT).trans c1T)
       have hS8:=HSS.out _ S2.bel S2.c0;refine hK.out _ _ hS8 (fun _=>?_);clear hK;refine wpAnyH_ready (rs:=[1,17]) (fuel:=4) (by kernel_rfl) (by simp) ?_;refine AllReadyH.cons rfl (fun K hK=>?_) (AllReadyH.cons rfl (fun K hK=>?_) AllReadyH.nil)
       ·go_simp
        refine hK.out _ _ hS8 (fun _=>?_);clear hK;refine wpAnyH_ready (rs:=[17]) (fuel:=3) (by kernel_rfl) (by simp) ?_;refine AllReadyH.cons rfl (fun K hK=>?_) AllReadyH.nil;go_simp
        have SA:=S2.below ((Below.refl _ _).alloc (Nat.le_refl _) (.cells #[.string n0,.int .i64 n1,.int .i64 n2,.int .i64 n3,.string n4] 46 (0,0)));have hS9:=HSS.out _ SA.bel SA.c0;refine hK.out _ _ hS9 (fun _=>?_);clear hK;refine wpAnyH_ready (rs:=[18]) (fuel:=2) (by kernel_rfl) (by simp) ?_;refine AllReadyH.cons rfl (fun K hK=>?_) AllReadyH.nil;refine step_append_lies _ rfl _ _ 23 rfl w4.heap.size 46 j0 (.agg #[.string ⟨#[]⟩,.int .i64 0,.int .i64 0,.int .i64 0,.string ⟨#[]⟩]) 5 56 Tryz.underlying23 gi gz0 gz1 gz2 rfl (by decide) _ _ _ rfl (S2.o2.alloc _) ⟨t8.heap.size,0,none⟩ 1 1 [.string n0,.int .i64 n1,.int .i64 n2,.int .i64 n3,.string n4] rfl rfl (ZdR _ _ _ _ _ _ _) (one5 _ _ _ _ _) (by decide) (by unfold maxLen;omega) (by omega) (by simp;omega) _ rfl ?_;intro g7 cp7 t7 hown7 hgrow7 hat7 hlt7;obtain ⟨⟨q1,q2⟩,S4⟩:=S2.put2 hgrow7 hown7 hat7;have hM7:=S2.mid2 hgrow7;have hS7:=HSS.out _ hM7.2 hM7.1;clear hgrow7 hown7 hat7 hlt7 hM7;refine hK.out _ _ hS7 (fun _=>?_);clear hK;refine wpAnyH_ready (rs:=[19]) (fuel:=1) (by kernel_rfl) (by simp) ?_;refine AllReadyH.cons rfl (fun K hK=>?_) AllReadyH.nil;go_simp
        refine hK.out _ _ hS7 (fun _=>?_);clear hK;refine wpAnyH_ready (rs:=[20]) (fuel:=0) (by kernel_rfl) (by simp) ?_;refine AllReadyH.cons rfl (fun K hK=>?_) AllReadyH.nil;go_simp
        refine hK.out _ _ (HSS.out _ S4.bel S4.c0) (fun _=>?_);clear hK;refine ⟨by kernel_rfl,?_⟩;go_wp2_with fail
        go_roundw
        case rel=>exact ⟨m+1,_,by omega,by go_num,by rw [HN];exact S4⟩
        case measure=>simp [intOf];omega
       ·go_simp
        have SA:=S2.below ((Below.refl _ _).alloc (Nat.le_refl _) (.cells #[.string n0,.int .i64 n1,.int .i64 n2,.int .i64 n3,.string n4] 46 (0,0)));have hS9:=HSS.out _ SA.bel SA.c0;refine hK.out _ _ hS9 (fun _=>?_);clear hK;refine wpAnyH_ready (rs:=[1]) (fuel:=3) (by kernel_rfl) (by simp) ?_;refine AllReadyH.cons rfl (fun K hK=>?_) AllReadyH.nil;go_simp
        refine hK.out _ _ hS9 (fun _=>?_);clear hK;refine wpAnyH_ready (rs:=[18]) (fuel:=2) (by kernel_rfl) (by simp) ?_;refine AllReadyH.cons rfl (fun K hK=>?_) AllReadyH.nil;refine step_append_lies _ rfl _ _ 23 rfl w4.heap.size 46 j0 (.agg #[.string ⟨#[]⟩,.int .i64 0,.int .i64 0,.int .i64 0,.string ⟨#[]⟩]) 5 56 Tryz.underlying23 gi gz0 gz1 gz2 rfl (by decide) _ _ _ rfl (S2.o2.alloc _) ⟨t8.heap.size,0,none⟩ 1 1 [.string n0,.int .i64 n1,.int .i64 n2,.int .i64 n3,.string n4] rfl rfl (ZdR _ _ _ _ _ _ _) (one5 _ _ _ _ _) (by decide) (by unfold maxLen;omega) (by omega) (by simp;omega) _ rfl ?_;intro g7 cp7 t7 hown7 hgrow7 hat7 hlt7;obtain ⟨⟨q1,q2⟩,S4⟩:=S2.put2 hgrow7 hown7 hat7;have hM7:=S2.mid2 hgrow7;have hS7:=HSS.out _ hM7.2 hM7.1;clear hgrow7 hown7 hat7 hlt7 hM7;refine hK.out _ _ hS7 (fun _=>?_);clear hK;refine wpAnyH_ready (rs:=[19]) (fuel:=1) (by kernel_rfl) (by simp) ?_;refine AllReadyH.cons rfl (fun K hK=>?_) AllReadyH.nil;go_simp
        refine hK.out _ _ hS7 (fun _=>?_);clear hK;refine wpAnyH_ready (rs:=[20]) (fuel:=0) (by kernel_rfl) (by simp) ?_;refine AllReadyH.cons rfl (fun K hK=>?_) AllReadyH.nil;go_simp
        refine hK.out _ _ (HSS.out _ S4.bel S4.c0) (fun _=>?_);clear hK;refine ⟨by kernel_rfl,?_⟩;go_wp2_with fail
        go_roundw
        case rel=>exact ⟨m+1,_,by omega,by go_num,by rw [HN];exact S4⟩
        case measure=>simp [intOf];omega
    ·obtain rfl:m=k:=by omega
     have e2:decide ((m:Int)<(m:Int))=false:=by simp
     have ne9:=S1.ne;have cc0:=S1.c0;have cc1:=S1.c1;have hC2:=S1.hb;obtain ⟨Bz,Oz1,Oz2,Rz0,Rz1⟩:=Zbb F4.b S1.o1 S1.o2 hzF F4.r0 F4.r1;have hfin:=hQ1.out _ _ _ Oz1 Oz2 ne9 Bz;obtain ⟨p2,q2,rfl,_⟩:=Zl S1.o2;clear S1 hQ1 Oz1 Oz2 Bz;go_wp2_with fail
     generalize (wr.setCell ⟨w.heap.size+1,0,none⟩ (.slice (some ⟨g2,0,none⟩) (D+1) cp2)).setCell ⟨w.heap.size+1,1,none⟩ (.slice p2 m q2)=wz at *;exact bodyPost_ret (v:=.tuple #[.agg #[.slice (some ⟨g2,0,none⟩) (D+1) cp2,.slice p2 m q2],.int .i64 0]) (by simp [results,Tryz.results28,go_sem,Rz0,Rz1]) rfl hfin
theorem ZfO (ad af:Option Addr) (cd cf:Nat) (a:Ar.A) (size:Int) (w:World) (h:ArV w ad af a) (hs:SaneA a) :
 Calls Tryz.prog 28 #[av ad cd af cf a,.int .i64 size] w fun e w'=>ArSaid w (Ar.retA a size) (Ar.retE a size) e w':=by
 by_cases hE:Ar.retE a size=0
 ·rw [Ar.ZhW hE,hE];exact ZhB ad af cd cf a size w h hs hE
 ·have e:Ar.retA a size=Ar.az:=by unfold Ar.retA;rw [if_neg hE]
  rw [e];by_cases hc:Ar.chk a=0
  ·by_cases hz:0<=size/\size<=256
   ·have h4:a.dicts.length=4:=by
     rcases Nat.lt_or_ge a.dicts.length 4 with h9 | h9
     ·exfalso;apply hE;unfold Ar.retE;rw [if_neg (fun h8=>h8 hc),if_pos hz,if_neg (by omega)]
     ·obtain ⟨m1,_,_⟩:=Ar.Zw.1 (Ar.Zd.1 hc).1;omega
    have e2:Ar.retE a size=2:=by unfold Ar.retE;rw [if_neg (fun h8=>h8 hc),if_pos hz,if_pos h4]
    rw [e2];exact Zff ad af cd cf a size w h hs hc hz h4
   ·have e2:Ar.retE a size=3:=by unfold Ar.retE;rw [if_neg (fun h8=>h8 hc),if_neg hz]
    rw [e2];exact Zfe ad af cd cf a size w h hs hc hz
  ·have e2:Ar.retE a size=Ar.chk a:=by unfold Ar.retE;rw [if_pos hc]
   rw [e2];exact ZfH ad af cd cf a size w h hs hc
end Go.Proofs.YtbjbjbpgmojcbabGreat
