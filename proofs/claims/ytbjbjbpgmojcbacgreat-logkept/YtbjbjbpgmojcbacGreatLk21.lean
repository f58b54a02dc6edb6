/- A part of the proof: what it leans on. -/
import Derived.Test.YtbjbjbpgmojcbacGreatLk20
set_option maxRecDepth 8000
set_option maxHeartbeats 4000000
namespace Go.Proofs.YtbjbjbpgmojcbacGreat
open Go.RowKit
namespace Ar
def Zkw (a:A) (k:Nat):ByteArray:=if k=0 then ⟨#[]⟩ else (fa a.files (k - 1)).name
theorem ZpZ {b:ByteArray} (h:isNm b=true):0<b.size:=by
 unfold isNm at h;rw [Bool.and_eq_true] at h;have:=of_decide_eq_true h.1;omega
theorem Zuc (n:ByteArray):Tr.bl n ⟨#[]⟩=false:=by
 unfold Tr.bl;rw [show (⟨#[]⟩:ByteArray).toList=[] by rw [ByteArray.toList_eq]]
 cases n.toList <;> rfl
theorem Zti {a:A} {k:Nat} (hn:isNm (fa a.files k).name=true) :
 (decide (k=0) || Tr.bl (fa a.files (k - 1)).name (fa a.files k).name)=!(Op.bytesLess (fa a.files k).name.toList (Zkw a k).toList || ((fa a.files k).name.toList == (Zkw a k).toList)):=by
 have hp:=ZpZ hn;unfold Zkw;by_cases h0:k=0
 ·subst h0;rw [if_pos rfl];have h1:=Zuc (fa a.files 0).name;unfold Tr.bl at h1;have e2:decide ((fa a.files 0).name=⟨#[]⟩)=false:=dF (fun e=>by rw [e] at hp;exact absurd hp (Nat.lt_irrefl 0));rw [h1,Zdp,e2];simp
 ·rw [if_neg h0,decide_eq_false h0,Bool.false_or,Zdp];generalize (fa a.files (k - 1)).name=l;generalize (fa a.files k).name=n
  cases h1:Tr.bl l n with
  | true =>
   have h2:=ZpB h1;unfold Tr.bl at h2;rw [h2,decide_eq_false]
   ·rfl
   ·rintro rfl;rw [Tr.ZcA] at h1;cases h1
  | false =>
   cases h2:Tr.bl n l with
   | true=>unfold Tr.bl at h2;rw [h2];rfl
   | false=>rw [Tr.Zfz h2 h1];simp
theorem ZbR {a:A} {k:Nat} (hk:k<a.files.length) (h:okAt a k=false):gdK a a.files.length=false:=by
 cases hg:gdK a a.files.length with
 | false=>rfl
 | true=>rw [ZgD hg hk] at h;cases h
def txK (a:A) (k:Nat):List ByteArray:=(a.files.take k).map (tx a.dicts)
theorem ZiM {a:A} {k:Nat} (h:k<a.files.length):txK a (k+1)=txK a k++[tx a.dicts (fa a.files k)]:=by
 unfold txK;rw [ZN h,List.map_append];rfl
theorem ZlV (a:A):txK a a.files.length=txs a:=by unfold txK txs;rw [List.take_length]
end Ar
theorem Zez {w:World} {base:Nat} {v:Value} {L:List ByteArray} (h:w.ownsRow base 9 1 v L.length (L.map Value.string)):∃ ad cap,v=.slice ad L.length cap/\L.length<=cap/\Tr.TxFar base w ad L:=by
 rcases h.2 with ⟨h1,h2⟩ | ⟨g,cap,cur,h1,h2,h3,h4,h5,h6,h7⟩
 ·obtain rfl:L=[]:=lZ.1 h2;exact ⟨none,0,h1,nl _,.inl rfl⟩
 ·refine ⟨some ⟨g,0,none⟩,cap,h1,h4,.inr ⟨g,0,rfl,h2,(aG.1 h3).1,fun i hi=>?_⟩⟩;have e:(cur.toList.take (L.length*1))[i]?=(L.map Value.string)[i]?:=by rw [h7]
  rw [Nat.mul_one,List.getElem?_take_of_lt hi] at e;simp only [World.cell?,h3,Nat.zero_add];simp only [Option.isSome_none,Bool.false_eq_true,if_false];rw [<-Array.getElem?_toList,e];simp [Tr.xa,hi]
theorem TxFar.sl {lo:Nat} {w:World} {ad:Option Addr} {L:List ByteArray} (h:Tr.TxFar lo w ad L):TxSl w ad L:=by
 rcases h with h | ⟨b,off,h1,_,h2⟩
 ·exact .inl h
 ·exact .inr ⟨b,off,h1,h2⟩
theorem FlSl.at {w:World} {ad:Option Addr} {fs:List Ar.F} (h:FlSl w ad fs) {i:Nat} (hi:i<fs.length):∃ b off,ad=some ⟨b,off,none⟩/\b<w.heap.size/\FlC w b (off+i*5) (Ar.fa fs i):=by
 rcases h with rfl | ⟨b,off,h1,h2⟩
 ·simp at hi
 ·exact ⟨b,off,h1,h2.1,h2.2 i hi⟩
def Zae (a:Ar.A) (w:World) (e:Ending) (w':World):Prop:=∃ ad cap L,e=.returned (.tuple #[.slice ad (L:List ByteArray).length cap,.int .i64 (Ar.chk a)])/\L.length<=cap/\Tr.TxFar w.heap.size w' ad L/\(Ar.chk a=0->L=Ar.txs a)/\(Ar.chk a ≠ 0->L=[]/\ad=none/\cap=0)/\Below w.heap.size w w'
theorem ZlA {a:Ar.A} {w w':World} (hb:Below w.heap.size w w') (hc:Ar.chk a ≠ 0):Zae a w (.returned (.tuple #[.slice none 0 0,.int .i64 (Ar.chk a)])) w' :=
 ⟨none,0,[],rfl,nl _,.inl rfl,fun h=>absurd h hc,fun _=>⟨rfl,rfl,rfl⟩,hb⟩
theorem Zlh (ad af:Option Addr) (cd cf:Nat) (a:Ar.A) (w:World) (h:ArV w ad af a) (hs:SaneA a) (hm:Ar.many a=true) :
 Calls Tryz.prog 31 #[av ad cd af cf a] w fun e w'=>Zae a w e w':=by
 have hc:Ar.chk a=2:=by unfold Ar.chk;rw [if_pos hm]
 have hb:=fun o=>(bR w.heap.size w).alloc (nl _) o
 have c1:=fun w hx=>Zdt ad af cd cf a w hx hs
 rw [hm] at c1;have HX:Hid (∀ o,TxSl (w.alloc o) ad a.dicts):=fun o=>h.ds.below (hb o)
 have HE:Hid (∀ w',Below w.heap.size w w'->Zae a w (.returned (.tuple #[.slice none 0 0,.int .i64 2])) w'):=fun w' h9=>by rw [<-hc];exact ZlA h9 (by rw [hc];decide)
 have C1:Hid (∀ o,Calls Tryz.prog 61 #[av ad cd af cf a] (w.alloc o) fun e w'=>e=.returned (.bool true)/\Below (w.alloc o).heap.size (w.alloc o) w'):=fun o=>c1 _ (HX.out o)
 clear c1 h hs hc;unfold av at C1 |-
 clear HX hm;generalize a.dicts.length=D at *;generalize a.files.length=F at *;go_enter Tryz.func31,Tryz.ntmps31
 go_wp2_with fail
 refine (C1.out _).mono ?_;rintro e w1 ⟨rfl,G⟩;go_wp2_with fail
 go_ret2
 exact HE.out _ (bch (hb _) G (nl _))
theorem Zkr (ad af:Option Addr) (cd cf:Nat) (a:Ar.A) (w:World) (h:ArV w ad af a) (hs:SaneA a) (hm:Ar.many a=false) :
 Calls Tryz.prog 31 #[av ad cd af cf a] w fun e w'=>Zae a w e w':=by
 obtain ⟨m1,m2,m3⟩:=Ar.Zw.1 hm;obtain ⟨i0,hi,hz0,hz1,hz2⟩:=info_parts (P:=Tryz.prog) (e:=9) (z:=.string ⟨#[]⟩) (size:=1) (bytes:=16) (by kernel_rfl);have HC:Hid (Ar.chk a=if Ar.gdK a a.files.length=true then 0 else 1):=by show _=_;unfold Ar.chk;rw [hm];rfl
 have hb:=fun o=>(bR w.heap.size w).alloc (nl _) o
 have c1:=fun o=>Zdt ad af cd cf a (w.alloc o) (h.ds.below (hb o)) hs
 rw [hm] at c1
 have HB:Hid (∀ w',Below w.heap.size w w'->Ar.gdK a a.files.length=false->Zae a w (.returned (.tuple #[.slice none 0 0,.int .i64 1])) w'):=fun w' h9 hg=>by
  have hc:Ar.chk a=1:=by rw [HC.out,hg];rfl
  rw [<-hc];exact ZlA h9 (by rw [hc];decide)
 have HG:Hid (∀ w' v base,w.heap.size<=base->Below w.heap.size w w'->Ar.gdK a a.files.length=true->w'.ownsRow base 9 1 v a.files.length ((Ar.txs a).map Value.string)->Zae a w (.returned (.tuple #[v,.int .i64 0])) w'):=fun w' v base hbs h9 hg ho=>by
  have hc:Ar.chk a=0:=by rw [HC.out,hg];rfl
  have hl:(Ar.txs a).length=a.files.length:=by unfold Ar.txs;rw [List.length_map]
  rw [<-hl] at ho;obtain ⟨ad',cap',rfl,h4,h5⟩:=Zez ho;refine ⟨ad',cap',Ar.txs a,by rw [hc],h4,?_,fun _=>rfl,fun h8=>absurd hc h8,h9⟩;rcases h5 with h5 | ⟨b,off,h6,h7,h8⟩
  ·exact .inl h5
  ·exact .inr ⟨b,off,h6,by omega,h8⟩
 have HFl:Hid (∀ w',Below w.heap.size w w'->∀ k,k<a.files.length->∃ b off,af=some ⟨b,off,none⟩/\b<w'.heap.size/\FlC w' b (off+k*5) (Ar.fa a.files k)):=fun w' h9 k hk=>(h.fs.below h9).at hk
 have HU:Hid (∀ w',Below w.heap.size w w'->∀ k,Calls Tryz.prog 62 #[av ad cd af cf a,fv (Ar.fa a.files k)] w' fun e w2=>e=.returned (.tuple #[.string (Ar.ukT a.dicts (Ar.fa a.files k)),.bool (Ar.okf a.dicts (Ar.fa a.files k))])/\Below w'.heap.size w' w2):=fun w' h9 k=>ZeK ad af cd cf a _ w' (h.ds.below h9) hs (hs.bk k)
 have HN:Hid (∀ k,(Ar.fa a.files k).name.size<=140737488355328):=hs.nm
 have HZ:Hid (∀ k,Ar.okf a.dicts (Ar.fa a.files k)=true->(Ar.ukT a.dicts (Ar.fa a.files k)).size<=512/\Ar.ukT a.dicts (Ar.fa a.files k)=Ar.tx a.dicts (Ar.fa a.files k)):=fun k h9=>by
  have e:Ar.ukT a.dicts (Ar.fa a.files k)=Ar.tx a.dicts (Ar.fa a.files k):=by unfold Ar.ukT;rw [if_pos h9]
  rw [e];have h8:=(Bool.and_eq_true _ _ ▸ h9:_/\_).2;exact ⟨Bk.unp_size (of_decide_eq_true h8).1,rfl⟩
 clear h hs hm HC m3;unfold av at c1 HU |-
 unfold fv at HU
 obtain ⟨D,hD⟩:∃ D,a.dicts.length=D:=⟨_,rfl⟩
 obtain ⟨N,hN⟩:∃ N,a.files.length=N:=⟨_,rfl⟩
 rw [hD,hN] at c1 |-
 simp only [hD,hN] at HU HFl HG HB;have HNN:Hid (a.files.length=N):=hN;rw [hN] at m2;clear hN hD m1;have hN':(N:Int)<=12:=by omega
 go_enter Tryz.func31,Tryz.ntmps31
 go_wp2_with fail
 refine (c1 _).mono ?_;rintro e w1 ⟨rfl,G⟩;clear c1;have hA:∀ i,w1.cell? ⟨w.heap.size,i,none⟩=(#[.slice ad D cd,.slice af N cf]:Array Value)[i]?:=fun i=>(G.cell (p:=⟨w.heap.size,i,none⟩) (by simp)).trans (cN _ _ _ i)
 have hzA:w.heap.size<w1.heap.size:=by have:=G.size;simp at this;omega
 have B1:=bch (hb (.cells #[.slice ad D cd,.slice af N cf] 33 (0,0))) G (nl _);have a0:w1.cell? ⟨w.heap.size,0,none⟩=some (.slice ad D cd):=hA 0;have a1:w1.cell? ⟨w.heap.size,1,none⟩=some (.slice af N cf):=hA 1;clear hA G;go_wp2_with fail
 go_loopw [4,5,15] (fun v l i wr=>∃ (k:Nat) (la:ByteArray),k<=N/\i=.int .i64 k/\l=.string la/\Hid (Ar.Zkw a k=la)/\Hid (Ar.gdK a k=true)/\wr.ownsRow w1.heap.size 9 1 v k ((Ar.txK a k).map Value.string)/\Below w1.heap.size w1 wr) (fun _ _ i _=>N - (intOf i).toNat)
 case atStart=>exact ⟨0,⟨#[]⟩,by omega,rfl,rfl,rfl,rfl,⟨rfl,.inl ⟨rfl,rfl⟩⟩,bR _ _⟩
 case round =>
  obtain ⟨k,la,hk2,rfl,rfl,HLA,HGK,hrow,B2⟩:=hrel;have a0':=(B2.cell (p:=⟨w.heap.size,0,none⟩) hzA).trans a0;have a1':=(B2.cell (p:=⟨w.heap.size,1,none⟩) hzA).trans a1;have B3:=bch B1 B2 (nl _);have hzr:w.heap.size+1<=wr.heap.size:=by have:=B2.size;omega
  have hzr':w.heap.size<wr.heap.size:=hzr;by_cases hlt:k<N
  ·have d1:decide ((k:Int)<(N:Int))=true:=by simp;omega
   have d1':decide (k<N)=true:=by simp;omega
   have hki:(k:Int)<(N:Int):=by omega
   obtain ⟨b,off,rfl,hbl,hc⟩:=HFl.out wr B3 k hlt;obtain ⟨c0,c1,c2,c3,c4⟩:=hc;have c5:=fun w=>Zav (Ar.fa a.files k).name w (HN.out k)
   have hkl:Hid (k<a.files.length):=by show _<_;rw [HNN.out];exact hlt
   have HOK:Hid (∀ x y z,Ar.isNm (Ar.fa a.files k).name=x->(decide (k=0) || Tr.bl (Ar.fa a.files (k - 1)).name (Ar.fa a.files k).name)=y->Ar.okf a.dicts (Ar.fa a.files k)=z->Ar.okAt a k=(x && y && z)):=fun x y z h1 h2 h3=>by unfold Ar.okAt;rw [h1,h2,h3]
   have c6:=fun w' hb=>HU.out w' hb k
   have HZk:=HZ.out k;have HTK:Hid (Ar.txK a (k+1)=Ar.txK a k++[Ar.tx a.dicts (Ar.fa a.files k)]):=Ar.ZiM hkl.out
   cases hnm:Ar.isNm (Ar.fa a.files k).name with
   | false =>
    have hg:Hid (Ar.gdK a N=false):=by
     show _=_;rw [<-HNN.out];refine Ar.ZbR hkl.out ?_;rw [HOK.out false _ _ hnm rfl rfl];rfl
    rw [hnm] at c5;clear hnm HOK c6 HZk HTK;generalize (Ar.fa a.files k).name=f0 at *;generalize (Ar.fa a.files k).dict=f1 at *;generalize (Ar.fa a.files k).size=f2 at *;generalize (Ar.fa a.files k).sum=f3 at *;generalize (Ar.fa a.files k).blk=f4 at *;go_wp2_with fail
    refine (c5 _).mono ?_;rintro e w2 ⟨rfl,rfl⟩;go_wp2_with fail
    go_ret2
    exact HB.out _ (B3.alloc B3.size _) hg.out
   | true =>
    have hord:=Ar.Zti hnm;rw [HLA.out] at hord;rw [hnm] at c5
    cases hoo:(Op.bytesLess (Ar.fa a.files k).name.toList la.toList || ((Ar.fa a.files k).name.toList == la.toList)) with
    | true =>
     rw [hoo] at hord
     have hg:Hid (Ar.gdK a N=false):=by
      show _=_;rw [<-HNN.out];refine Ar.ZbR hkl.out ?_;rw [HOK.out true false _ hnm hord rfl];rfl
     clear hnm HOK c6 HZk hord HTK;generalize (Ar.fa a.files k).name=f0 at *;generalize (Ar.fa a.files k).dict=f1 at *;generalize (Ar.fa a.files k).size=f2 at *;generalize (Ar.fa a.files k).sum=f3 at *;generalize (Ar.fa a.files k).blk=f4 at *;go_wp2_with fail
     refine (c5 _).mono ?_;rintro e w2 ⟨rfl,rfl⟩;go_wp2_with fail
     go_ret2
     exact HB.out _ (B3.alloc B3.size _) hg.out
    | false =>
     rw [hoo] at hord
     cases hof:Ar.okf a.dicts (Ar.fa a.files k) with
     | false =>
      have hg:Hid (Ar.gdK a N=false):=by
       show _=_;rw [<-HNN.out];refine Ar.ZbR hkl.out ?_;rw [HOK.out true true false hnm hord hof];rfl
      rw [hof] at c6;clear hnm HOK HZk hord hof HTK;generalize Ar.ukT a.dicts (Ar.fa a.files k)=T at *;generalize (Ar.fa a.files k).name=f0 at *;generalize (Ar.fa a.files k).dict=f1 at *;generalize (Ar.fa a.files k).size=f2 at *;generalize (Ar.fa a.files k).sum=f3 at *;generalize (Ar.fa a.files k).blk=f4 at *;have c7:=c6 _ (B3.alloc B3.size (.cells #[.string f0,.int .i64 f1,.int .i64 f2,.int .i64 f3,.string f4] 47 (0,0)));clear c6;go_wp2_with fail
      refine (c5 _).mono ?_;rintro e w2 ⟨rfl,rfl⟩;go_wp2_with fail
      refine c7.mono ?_;rintro e w3 ⟨rfl,G⟩;go_wp2_with fail
      go_ret2
      exact HB.out _ (bch (B3.alloc B3.size _) G (nl _)) hg.out
     | true =>
      obtain ⟨hT5,hTT⟩:=HZk hof;have hok:Hid (Ar.gdK a (k+1)=true):=by show _=_;rw [Ar.gdK,HGK.out,HOK.out true true true hnm hord hof];rfl
      have hla:Hid (Ar.Zkw a (k+1)=(Ar.fa a.files k).name):=by show _=_;unfold Ar.Zkw;rw [if_neg (by omega)];rfl
      rw [<-hTT] at HTK;rw [hof] at c6;clear hnm HOK HZk hord hof hTT;generalize Ar.ukT a.dicts (Ar.fa a.files k)=T at *;generalize (Ar.fa a.files k).name=f0 at *;generalize (Ar.fa a.files k).dict=f1 at *;generalize (Ar.fa a.files k).size=f2 at *;generalize (Ar.fa a.files k).sum=f3 at *;generalize (Ar.fa a.files k).blk=f4 at *;have c7:=c6 _ (B3.alloc B3.size (.cells #[.string f0,.int .i64 f1,.int .i64 f2,.int .i64 f3,.string f4] 47 (0,0)));clear c6;go_wp2_with fail
      refine (c5 _).mono ?_;rintro e w2 ⟨rfl,rfl⟩;go_wp2_with fail
      refine c7.mono ?_;rintro e w3 ⟨rfl,G⟩;have hrow3:=Zj (hrow.alloc (.cells #[.string f0,.int .i64 f1,.int .i64 f2,.int .i64 f3,.string f4] 47 (0,0))) G;have B4:Below w1.heap.size w1 w3:=bch (B2.alloc B2.size (.cells #[.string f0,.int .i64 f1,.int .i64 f2,.int .i64 f3,.string f4] 47 (0,0))) G (nl _);have hz3:=B4.size;clear G B2 B3 hrow c5 c7 c0 c1 c2 c3 c4 hbl
      go_wp2_with (first
       | (at_builtin;refine wpList_append_own _ rfl _ _ 30 rfl w1.heap.size 9 i0 (.string ⟨#[]⟩) 1 16 U30 hi hz0 hz1 hz2 rfl (by decide) _ _ _ rfl (hrow3.alloc _) ⟨w3.heap.size,0,none⟩ 1 1 [.string T] rfl rfl (cell_one_new _ _ _) (by simp [Value.oneCell']) (by unfold maxLen at *;omega) (by omega) (by simp;omega) ?_;intro v' w4 hown' hg4 hnil4;go_frame)
       | fail)
      have B5:Below w1.heap.size w1 w4:=(B4.alloc B4.size (.cells #[.string T] 9 (0,0))).grown hg4 (by simp;omega) (fun j hj=>(hrow3.lt j hj).1);go_roundw
      case rel=>exact ⟨k+1,f0,by omega,by go_num,rfl,hla,hok,by rw [HTK.out,List.map_append];exact hown',B5⟩
      case measure=>simp [intOf];omega
  ·obtain rfl:k=N:=by omega
   have d1:decide ((k:Int)<(k:Int))=false:=by simp
   have HTA:Hid (Ar.txK a k=Ar.txs a):=by show _=_;rw [<-HNN.out];exact Ar.ZlV a
   rw [HTA.out] at hrow;have hfin:=HG.out wr _ w1.heap.size B1.size B3 HGK.out hrow;clear hrow;go_wp2_with fail
   go_ret2
   exact hfin
theorem ZbH (ad af:Option Addr) (cd cf:Nat) (a:Ar.A) (w:World) (h:ArV w ad af a) (hs:SaneA a) :
 Calls Tryz.prog 31 #[av ad cd af cf a] w fun e w'=>Zae a w e w':=by
 cases hm:Ar.many a with
 | true=>exact Zlh ad af cd cf a w h hs hm
 | false=>exact Zkr ad af cd cf a w h hs hm
theorem Zih (f:Ar.F) (name:ByteArray) (w:World) :
 Calls Tryz.prog 54 #[fv f,.string name] w fun e w'=>e=.returned (.int .i64 (Lib.compareBytes f.name.data.toList name.data.toList))/\Below w.heap.size w w':=by
 have c1:=fun w=>Tryz.strings_Compare f.name name w
 unfold fv;generalize Lib.compareBytes f.name.data.toList name.data.toList=r at *;generalize f.name=f0 at *;go_enter Tryz.func54,Tryz.ntmps54
 go_wp2_with fail
 refine (c1 _).mono ?_;rintro e w1 ⟨rfl,rfl⟩;go_wp2_with fail
 go_ret
 exact ⟨rfl,(bR _ _).alloc (nl _) _⟩
theorem ZdZ:∀ (x y:List UInt8),(Lib.compareBytes x y=0) ↔ x=y
 | [],[]=>by simp [Lib.compareBytes]
 | _ :: _,[]=>by simp [Lib.compareBytes]
 | [],_ :: _=>by simp [Lib.compareBytes]
 | a :: x,b :: y=>by
  rw [Lib.compareBytes];have ih:=ZdZ x y;by_cases h1:a<b
  ·have h3:a ≠ b:=by rintro rfl;exact absurd h1 (UInt8.lt_irrefl _)
   simp [h1,h3]
  ·by_cases h2:b<a
   ·have h3:a ≠ b:=by rintro rfl;exact h1 h2
    simp [h1,h2,h3]
   ·have h3:a=b:=UInt8.le_antisymm (UInt8.not_lt.1 h2) (UInt8.not_lt.1 h1);subst h3;simpa [h1] using ih
theorem ZsX (a b:ByteArray):decide (Lib.compareBytes a.data.toList b.data.toList=0)=decide (a=b):=by
 by_cases h:a=b
 ·subst h;rw [decide_eq_true ((ZdZ _ _).2 rfl),decide_eq_true rfl]
 ·rw [decide_eq_false h,decide_eq_false];intro e;apply h;apply Tr.Zbq;rw [ByteArray.toList_eq,ByteArray.toList_eq];exact (ZdZ _ _).1 e
theorem Zig (b off cap:Nat) (fs:List Ar.F) (name:ByteArray) (w:World) (h:FlAt w b off fs) (hn:fs.length<=100000) (hs:Ar.Srt fs) :
 Calls Tryz.prog 53 #[.slice (some ⟨b,off,none⟩) fs.length cap,.string name,.func (.func 54) #[] #[]] w fun e w'=>e=.returned (.tuple #[.int .i64 (Ar.pos fs name:Nat),.bool (Ar.ZK fs name)])/\Below w.heap.size w w':=by
 have HF:Hid (∀ w',Below w.heap.size w w'->∀ k,k<fs.length->FlC w' b (off+k*5) (Ar.fa fs k)):=fun w' h9 k hk=>(h.below h9).2 k hk
 have HC:Hid (∀ k w,Calls Tryz.prog 54 #[fv (Ar.fa fs k),.string name] w fun e w'=>e=.returned (.int .i64 (Lib.compareBytes (Ar.fa fs k).name.data.toList name.data.toList))/\Below w.heap.size w w'):=fun k w=>Zih _ name w
 have HP:Hid (∀ i,i<=fs.length->(∀ k,k<i->Tr.bl (Ar.fa fs k).name name=true)->(i<fs.length->Tr.bl (Ar.fa fs i).name name=false)->Ar.pos fs name=i):=fun i h1 h2 h3=>Ar.ZqX h1 h2 h3
 have HT:Hid (Ar.ZK fs name=decide (Ar.pos fs name<fs.length/\(Ar.fa fs (Ar.pos fs name)).name=name)):=rfl;have HSr:Hid (∀ i j,i<j->j<fs.length->Tr.bl (Ar.fa fs i).name (Ar.fa fs j).name=true):=hs;clear h hs
 obtain ⟨p,hp⟩:∃ p,Ar.pos fs name=p:=⟨_,rfl⟩
 obtain ⟨r,hr⟩:∃ r,Ar.ZK fs name=r:=⟨_,rfl⟩
 rw [hp,hr];rw [hp,hr] at HT;rw [hp] at HP;clear hp hr;unfold fv at HC;generalize hN:fs.length=N at *;have hNi:(N:Int)<=100000:=by omega
 clear hN;go_enter Tryz.func53,Tryz.ntmps53
 go_wp2_with fail
 go_loopw [9,10] (fun i j wr=>∃ I J:Nat,I<=J/\J<=N/\i=.int .i64 I/\j=.int .i64 J/\Hid (∀ k,k<I->Tr.bl (Ar.fa fs k).name name=true)/\Hid (J<N->Tr.bl (Ar.fa fs J).name name=false)/\Below w.heap.size w wr) (fun i j _=>(intOf j).toNat - (intOf i).toNat)
 case atStart=>exact ⟨0,N,by omega,by omega,rfl,rfl,fun k hk=>by omega,fun h9=>by omega,bR _ _⟩
 case round =>
  obtain ⟨I,J,hIJ,hJN,rfl,rfl,H1,H2,B1⟩:=hrel;by_cases hlt:I<J
  ·have d1:decide ((I:Int)<(J:Int))=true:=zdT (by omega);have hlt':(I:Int)<(J:Int):=by omega
   obtain ⟨M,hM⟩:∃ M,(I+J) / 2=M:=⟨_,rfl⟩
   have hM1:I<=M/\M<J:=by omega
   obtain ⟨c0,c1,c2,c3,c4⟩:=HF.out wr B1 M (by omega);have c5:=HC.out M;have hMi:(M:Int)<=100000:=by omega
   have hMN:(M:Int)<(N:Int):=by omega
   have hMN':M<N:=by omega
   have hbl:=Tr.Znn (Ar.fa fs M).name name
   obtain ⟨x,hx⟩:∃ x,Lib.compareBytes (Ar.fa fs M).name.data.toList name.data.toList=x:=⟨_,rfl⟩
   rw [hx] at c5 hbl;clear hx
   cases hq:Tr.bl (Ar.fa fs M).name name with
   | true =>
    have K1:Hid (∀ k,k<M+1->Tr.bl (Ar.fa fs k).name name=true):=fun k hk=>by
     by_cases e:k=M
     ·subst e;exact hq
     ·exact Tr.ZcO (HSr.out k M (by omega) hMN') hq
    rw [hq] at hbl;have hx0:x<0:=of_decide_eq_true hbl;clear hq;generalize (Ar.fa fs M).name=f0 at *;generalize (Ar.fa fs M).dict=f1 at *;generalize (Ar.fa fs M).size=f2 at *;generalize (Ar.fa fs M).sum=f3 at *;generalize (Ar.fa fs M).blk=f4 at *;go_wp2_with fail
    refine (c5 _).mono ?_;rintro e w1 ⟨rfl,G⟩;have B2:=bch B1 G (nl _);go_wp2_with fail
    go_roundw
    case rel=>exact ⟨M+1,J,by omega,by omega,by go_num,rfl,K1,H2,B2⟩
    case measure=>simp [intOf];omega
   | false =>
    have K1:Hid (M<N->Tr.bl (Ar.fa fs M).name name=false):=fun _=>hq
    rw [hq] at hbl;have hx0:¬ x<0:=of_decide_eq_false hbl;clear hq;generalize hf0:(Ar.fa fs M).name=f0 at c0 c5 hbl;clear hf0;generalize (Ar.fa fs M).dict=f1 at *;generalize (Ar.fa fs M).size=f2 at *;generalize (Ar.fa fs M).sum=f3 at *;generalize (Ar.fa fs M).blk=f4 at *;go_wp2_with fail
    refine (c5 _).mono ?_;rintro e w1 ⟨rfl,G⟩;have B2:=bch B1 G (nl _);go_wp2_with fail
    go_roundw
    case rel=>exact ⟨I,M,by omega,by omega,rfl,by go_num,H1,K1,B2⟩
    case measure=>simp [intOf];omega
  ·obtain rfl:I=J:=by omega
   have d1:decide ((I:Int)<(I:Int))=false:=by simp
   have hp:Hid (p=I):=HP.out I hJN H1.out H2.out;rw [hp.out] at HT;by_cases hIN:I<N
   ·have d2:decide ((I:Int)<(N:Int))=true:=zdT (by omega);have hIi:(I:Int)<(N:Int):=by omega
    obtain ⟨c0,c1,c2,c3,c4⟩:=HF.out wr B1 I hIN;have c5:=HC.out I;have hbl:=ZsX (Ar.fa fs I).name name
    obtain ⟨x,hx⟩:∃ x,Lib.compareBytes (Ar.fa fs I).name.data.toList name.data.toList=x:=⟨_,rfl⟩
    rw [hx] at c5 hbl
    have hr:Hid (r=decide (x=0)):=by
     show _=_;rw [hbl,HT.out];by_cases e:(Ar.fa fs I).name=name
     ·rw [decide_eq_true e,decide_eq_true ⟨hIN,e⟩]
     ·rw [decide_eq_false e,decide_eq_false (fun h9=>e h9.2)]
    clear hx hbl H1 H2 HT HP HSr;generalize (Ar.fa fs I).name=f0 at *;generalize (Ar.fa fs I).dict=f1 at *;generalize (Ar.fa fs I).size=f2 at *;generalize (Ar.fa fs I).sum=f3 at *;generalize (Ar.fa fs I).blk=f4 at *;by_cases hx0:x=0
    ·subst hx0;go_wp2_with fail
     refine (c5 _).mono ?_;rintro e w1 ⟨rfl,G⟩;have B2:=bch B1 G (nl _);go_wp2_with fail
     go_ret2
     exact ⟨by rw [hp.out,hr.out];rfl,B2⟩
    ·have e1:(x == 0)=false:=by simpa using hx0
     have e2:decide (x=0)=false:=dF hx0;go_wp2_with fail
     refine (c5 _).mono ?_;rintro e w1 ⟨rfl,G⟩;have B2:=bch B1 G (nl _);go_wp2_with fail
     go_ret2
     exact ⟨by rw [hp.out,hr.out,e2];rfl,B2⟩
   ·have d2:decide ((I:Int)<(N:Int))=false:=dF (by omega);have hIi:¬ (I:Int)<(N:Int):=by omega
    have hr:Hid (r=false):=by show _=_;rw [HT.out];exact dF (fun h9=>hIN h9.1)
    go_wp2_with fail
    go_ret2
    exact ⟨by rw [hp.out,hr.out];rfl,B1⟩
theorem Zle (ad:Option Addr) (cap:Nat) (name:ByteArray) (fv:Value) (w:World) :
 Calls Tryz.prog 53 #[.slice ad 0 cap,.string name,fv] w fun e w'=>e=.returned (.tuple #[.int .i64 0,.bool false])/\Below w.heap.size w w':=by
 go_enter Tryz.func53,Tryz.ntmps53
 go_wp2_with fail
 go_loopw [9,10] (fun i j wr=>i=.int .i64 0/\j=.int .i64 0/\wr=w) (fun _ _ _=>0)
 case atStart=>exact ⟨rfl,rfl,rfl⟩
 case round =>
  obtain ⟨rfl,rfl,rfl⟩:=hrel;go_wp2_with fail
  go_ret2
  exact ⟨rfl,bR _ _⟩
theorem Zlv (ad:Option Addr) (cap:Nat) (fs:List Ar.F) (name:ByteArray) (w:World) (h:FlSl w ad fs) (hn:fs.length<=100000) (hs:Ar.Srt fs) :
 Calls Tryz.prog 53 #[.slice ad fs.length cap,.string name,.func (.func 54) #[] #[]] w fun e w'=>e=.returned (.tuple #[.int .i64 (Ar.pos fs name:Nat),.bool (Ar.ZK fs name)])/\Below w.heap.size w w':=by
 rcases h with rfl | ⟨b,off,rfl,h2⟩
 ·exact Zle ad cap name _ w
 ·exact Zig b off cap fs name w h2 hn hs
theorem ZbN (ad af:Option Addr) (cd cf:Nat) (a:Ar.A) (name:ByteArray) (w:World) (h:FlSl w af a.files) (hn:a.files.length<=100000) (hs:Ar.Srt a.files) :
 Calls Tryz.prog 27 #[av ad cd af cf a,.string name] w fun e w'=>e=.returned (.tuple #[.int .i64 (Ar.pos a.files name:Nat),.bool (Ar.ZK a.files name)])/\Below w.heap.size w w':=by
 have hb:=fun o=>(bR w.heap.size w).alloc (nl _) o
 have c1:=fun o=>Zlv af cf a.files name (w.alloc o) (h.below (hb o)) hn hs
 unfold av;clear h hn hs;generalize Ar.pos a.files name=p at *;generalize Ar.ZK a.files name=r at *;generalize a.dicts.length=D at *;generalize a.files.length=F at *;go_enter Tryz.func27,Tryz.ntmps27
 go_wp2_with fail
 refine (c1 _).mono ?_;rintro e w1 ⟨rfl,G⟩;go_wp2_with fail
 go_ret2
 exact ⟨rfl,bch (hb _) G (nl _)⟩
theorem Zv (ad af:Option Addr) (cd cf:Nat) (a:Ar.A) (w:World) (h:ArV w ad af a) (hs:SaneA a) :
 Calls Tryz.prog 24 #[av ad cd af cf a] w fun e w'=>e=.returned (.int .i64 (Ar.chk a))/\Below w.heap.size w w':=by
 have hb:=fun o=>(bR w.heap.size w).alloc (nl _) o
 have c1:=fun o=>ZbH ad af cd cf a (w.alloc o) (h.below (hb o)) hs
 unfold Zae at c1;unfold av at c1 |-
 generalize Ar.chk a=E at *;generalize Ar.txs a=TX at *;generalize a.dicts.length=D at *;generalize a.files.length=F at *;clear h hs;go_enter Tryz.func24,Tryz.ntmps24
 go_wp2_with fail
 refine (c1 _).mono ?_;rintro e w1 ⟨ad',cap',L,rfl,_,_,_,_,G⟩;clear c1;go_wp2_with fail
 go_ret
 exact ⟨rfl,bch (hb _) G (nl _)⟩
namespace Ar
end Ar
theorem ZP {w:World} {a:Addr} {v:Value} (h:w.cell? a=some v):w.setCell a v=w:=by
 have hh:(w.setCell a v).heap=w.heap:=by
  unfold World.setCell;simp only;apply Array.ext_getElem?;intro i;rw [Array.getElem?_modify];by_cases e:a.block=i
  ·subst e;rw [if_pos rfl];unfold World.cell? at h
   cases hb:w.heap[a.block]? with
   | none=>rfl
   | some o =>
    rw [hb] at h
    cases o with
    | cells c elem fr =>
     simp only [Option.map_some]
     congr 2
     simp only at h;split at h
     ·cases h
     ·rename_i hs
      rw [if_neg hs];obtain ⟨hlt,hv⟩:=aG.1 h;apply Array.ext_getElem?;intro j;rw [Array.getElem?_setIfInBounds];by_cases e2:a.off=j
      ·subst e2;simp [hlt,hv]
      ·simp [e2]
    | _=>cases h
  ·rw [if_neg e]
 have e:w.setCell a v={ w with heap:=(w.setCell a v).heap }:=rfl;rw [e,hh]
theorem Zc (w:World) (a:Addr) (v:Value):w.grownBy (w.setCell a v) (some a.block):=by
 refine ⟨rfl,rfl,rfl,by simp [World.setCell],fun k hk hne=>?_⟩;have:a.block ≠ k:=fun e=>hne (by rw [e])
 simp [World.setCell,Array.getElem?_modify,this]
structure ClS (w0 wr:World) (B base:Nat) (v1 v2:Value) (n1 n2:Nat) (xs1 xs2:List Value):Prop where
 c0:wr.cell? ⟨B,0,none⟩=some v1
 c1:wr.cell? ⟨B,1,none⟩=some v2
 f0:wr.frozen? ⟨B,0,none⟩=false
 f1:wr.frozen? ⟨B,1,none⟩=false
 o1:wr.ownsRow base 9 1 v1 n1 xs1
 o2:wr.ownsRow base 47 5 v2 n2 xs2
 ne:∀ j,v1.ownBlock=some j->v2.ownBlock ≠ some j
 hB:B<base
 hb:base<=wr.heap.size
 bel:Below B w0 wr
theorem Zat {w:World} {base:Nat} {e:TypeId} {size:Nat} {v:Value} {n:Nat} {xs:List Value} (h:w.ownsRow base e size v n xs) {b:Nat} (hb:b<base):some b ≠ v.ownBlock:=fun e1=>by have:=(h.lt b e1.symm).1;omega
theorem ClS.below {w0 wr w':World} {B base:Nat} {v1 v2:Value} {n1 n2:Nat} {xs1 xs2:List Value} (h:ClS w0 wr B base v1 v2 n1 n2 xs1 xs2) (hb:Below wr.heap.size wr w'):ClS w0 w' B base v1 v2 n1 n2 xs1 xs2:=by
 have hB:B<wr.heap.size:=nT h.hB h.hb
 exact ⟨(hb.cell (p:=⟨B,0,none⟩) hB).trans h.c0,(hb.cell (p:=⟨B,1,none⟩) hB).trans h.c1,(hb.frozen (p:=⟨B,0,none⟩) hB).trans h.f0,(hb.frozen (p:=⟨B,1,none⟩) hB).trans h.f1,
  Zj h.o1 hb,Zj h.o2 hb,h.ne,h.hB,nt h.hb hb.size,h.bel.trans (hb.mono (nL hB))⟩
theorem Zd {w w':World} {row:Option Nat} (hg:w.grownBy w' row) {b o:Nat} {v:Value} (h:w.cell? ⟨b,o,none⟩=some v) (hne:some b ≠ row):w'.cell? ⟨b,o,none⟩=some v:=hg.cell h hne
theorem Zo {w w':World} {row:Option Nat} (hg:w.grownBy w' row) {b o:Nat} (hb:b<w.heap.size) (h:w.frozen? ⟨b,o,none⟩=false) (hne:some b ≠ row):w'.frozen? ⟨b,o,none⟩=false:=(hg.frozen_far ⟨b,o,none⟩ hb hne).trans h
theorem ClS.put1 {w0 wr w2:World} {B base g cap n1 m n2:Nat} {v1 v2:Value} {xs1 ys xs2:List Value} {o:Obj} (h:ClS w0 wr B base v1 v2 n1 n2 xs1 xs2) (hg:(wr.alloc o).grownBy w2 v1.ownBlock)
 (ho:w2.ownsRow base 9 1 (.slice (some ⟨g,0,none⟩) m cap) m ys) (hl:v1.ownBlock=some g\/g=(wr.alloc o).heap.size) :
 (w2.cell? ⟨B,0,none⟩=some v1/\w2.frozen? ⟨B,0,none⟩=false)/\ClS w0 (w2.setCell ⟨B,0,none⟩ (.slice (some ⟨g,0,none⟩) m cap)) B base (.slice (some ⟨g,0,none⟩) m cap) v2 m n2 ys xs2:=by
 have hB:B<wr.heap.size:=nT h.hB h.hb;have hBa:B<(wr.alloc o).heap.size:=by simp;omega
 have ha:=h.below ((bR _ _).alloc (nl _) o);have n0:=Zat h.o1 h.hB;have k0:=Zd hg ha.c0 n0;have k1:=Zd hg ha.c1 n0;have q0:=Zo hg hBa ha.f0 n0;have q1:=Zo hg hBa ha.f1 n0;have hgb:base<=g:=(ho.lt g rfl).1;have hsg:=Zc w2 ⟨B,0,none⟩ (.slice (some ⟨g,0,none⟩) m cap);have hz:(wr.alloc o).heap.size<=w2.heap.size:=hg.size;refine ⟨⟨k0,q0⟩,cS _ _ _ k0,?_,by rw [World.frozen?_setCell];exact q0,by rw [World.frozen?_setCell];exact q1,ho.kept hsg (.inr (by simp [Value.ownBlock];have:=h.hB;omega)),?_,?_,h.hB,?_,?_⟩
 ·exact (cO w2 _ _ _ (by intro e;have:=congrArg Addr.off e;simp at this)).trans k1
 ·refine (ha.o2.kept hg ?_).kept hsg (.inr (Zat ha.o2 h.hB).symm)
  cases hv:v2.ownBlock with
  | none=>exact .inl rfl
  | some j=>exact .inr (fun e=>h.ne j e.symm hv)
 ·intro j hj e;simp [Value.ownBlock] at hj;subst hj;rcases hl with hl | hl
  ·exact h.ne g hl e
  ·have:=(h.o2.lt g e).2;simp at hl;omega
 ·show _<=(w2.setCell _ _).heap.size;have:=h.hb;simp [World.setCell] at *;omega
 ·exact ((h.bel.alloc (nL hB) o).grown hg (by simp;omega) (fun j hj=>by have:=(h.o1.lt j hj).1;have:=h.hB;omega)).setCell (nl _) _
theorem ClS.put2 {w0 wr w2:World} {B base g cap n1 m n2:Nat} {v1 v2:Value} {xs1 ys xs2:List Value} {o:Obj} (h:ClS w0 wr B base v1 v2 n1 n2 xs1 xs2) (hg:(wr.alloc o).grownBy w2 v2.ownBlock)
 (ho:w2.ownsRow base 47 5 (.slice (some ⟨g,0,none⟩) m cap) m ys) (hl:v2.ownBlock=some g\/g=(wr.alloc o).heap.size) :
 (w2.cell? ⟨B,1,none⟩=some v2/\w2.frozen? ⟨B,1,none⟩=false)/\ClS w0 (w2.setCell ⟨B,1,none⟩ (.slice (some ⟨g,0,none⟩) m cap)) B base v1 (.slice (some ⟨g,0,none⟩) m cap) n1 m xs1 ys:=by
 have hB:B<wr.heap.size:=nT h.hB h.hb;have hBa:B<(wr.alloc o).heap.size:=by simp;omega
 have ha:=h.below ((bR _ _).alloc (nl _) o);have n0:=Zat h.o2 h.hB;have k0:=Zd hg ha.c0 n0;have k1:=Zd hg ha.c1 n0;have q0:=Zo hg hBa ha.f0 n0;have q1:=Zo hg hBa ha.f1 n0;have hgb:base<=g:=(ho.lt g rfl).1;have hsg:=Zc w2 ⟨B,1,none⟩ (.slice (some ⟨g,0,none⟩) m cap);have hz:(wr.alloc o).heap.size<=w2.heap.size:=hg.size;refine ⟨⟨k1,q1⟩,?_,cS _ _ _ k1,by rw [World.frozen?_setCell];exact q0,by rw [World.frozen?_setCell];exact q1,?_,ho.kept hsg (.inr (by simp [Value.ownBlock];have:=h.hB;omega)),?_,h.hB,?_,?_⟩
 ·exact (cO w2 _ _ _ (by intro e;have:=congrArg Addr.off e;simp at this)).trans k0
 ·refine (ha.o1.kept hg ?_).kept hsg (.inr (Zat ha.o1 h.hB).symm)
  cases hv:v1.ownBlock with
  | none=>exact .inl rfl
  | some j=>exact .inr (fun e=>h.ne j hv e.symm)
 ·intro j hj e;simp [Value.ownBlock] at e;subst e;rcases hl with hl | hl
  ·exact h.ne g hj hl
  ·have:=(h.o1.lt g hj).2;simp at hl;omega
 ·show _<=(w2.setCell _ _).heap.size;have:=h.hb;simp [World.setCell] at *;omega
 ·exact ((h.bel.alloc (nL hB) o).grown hg (by simp;omega) (fun j hj=>by have:=(h.o2.lt j hj).1;have:=h.hB;omega)).setCell (nl _) _
def PN:List PanicEntry:=[{ v:=.iface 25 (.int .i64 1),recovered:=false }]
structure Rdr (w:World) (p:Nat) (s:ByteArray):Prop where
 c:w.cell? ⟨p,0,none⟩=some (.string s)
 f:w.frozen? ⟨p,0,none⟩=false
theorem Rdr.lt {w:World} {p:Nat} {s:ByteArray} (h:Rdr w p s):p<w.heap.size:=World.block_lt_of_cell? w _ h.c
theorem Rdr.below {w w':World} {p:Nat} {s:ByteArray} (h:Rdr w p s) (G:Below w.heap.size w w'):Rdr w' p s:=⟨(G.cell (p:=⟨p,0,none⟩) h.lt).trans h.c,(G.frozen (p:=⟨p,0,none⟩) h.lt).trans h.f⟩
theorem Rdr.set {w:World} {p:Nat} {s:ByteArray} (h:Rdr w p s) (r:ByteArray):Rdr (w.setCell ⟨p,0,none⟩ (.string r)) p r:=⟨World.cell?_setCell_same _ _ _ h.c,by rw [World.frozen?_setCell];exact h.f⟩
def On (p:Nat) (w w':World):Prop:=w.grownBy w' (some p)
theorem On.refl (p:Nat) (w:World):On p w w:=⟨rfl,rfl,rfl,Nat.le_refl _,fun _ _ _=>rfl⟩
theorem On.of {p:Nat} {w w':World} (G:Below w.heap.size w w'):On p w w':=⟨G.os,G.tape,G.output,G.size,fun k hk _=>G.block k hk⟩
theorem On.trans {p:Nat} {a b c:World} (h:On p a b) (g:On p b c):On p a c:=⟨g.os.trans h.os,g.tape.trans h.tape,g.output.trans h.output,Nat.le_trans h.size g.size,fun k hk hne=>(g.block k (Nat.lt_of_lt_of_le hk h.size) hne).trans (h.block k hk hne)⟩
theorem On.set {p:Nat} {w w':World} (h:On p w w') (v:Value):On p w (w'.setCell ⟨p,0,none⟩ v):=h.trans (Zc w' ⟨p,0,none⟩ v)
def ZE {α:Type} (r:Option (α × ByteArray)) (val:α->Value) (p:Nat) (w:World) (e:Ending) (w':World):Prop:=On p w w'/\match r with
 | none=>e=.panicked PN
 | some (x,q)=>e=.returned (val x)/\Rdr w' p q
theorem ZaS {α:Type} {r:Option (α × ByteArray)} {val:α->Value} {p:Nat} {w w':World} (hr:r=none) (h:On p w w'):ZE r val p w (.panicked PN) w':=by subst hr;exact ⟨h,rfl⟩
theorem Zbl {α:Type} {r:Option (α × ByteArray)} {val:α->Value} {p:Nat} {w w':World} {x:α} {q:ByteArray} (hr:r=some (x,q)) (h:On p w w') (h2:Rdr w' p q):ZE r val p w (.returned (val x)) w':=by subst hr;exact ⟨h,rfl,h2⟩
theorem ZdE (w:World):Calls Tryz.prog 113 #[.bool true] w fun e w'=>e=.returned (.tuple #[])/\w'=w:=by
 go_enter Tryz.func113,Tryz.ntmps113
 go_wp2_with fail
 go_end0
 exact ⟨rfl,rfl⟩
theorem Zfu (w:World):Calls Tryz.prog 113 #[.bool false] w fun e w'=>e=.panicked PN/\w'=w:=by
 unfold PN;go_enter Tryz.func113,Tryz.ntmps113
 go_wp2_with fail
 exact ⟨rfl,rfl,rfl⟩
namespace Im
theorem ZdO {s:ByteArray} {n k:Nat} (h:Nm.Zm s.data.toList=some (n,k)):rNum s=some (n,s.extract k s.size):=by unfold rNum;rw [h]
theorem ZjC {s:ByteArray} (h:Nm.Zm s.data.toList=none):rNum s=none:=by unfold rNum;rw [h]
end Im
theorem ZcQ (s:ByteArray) (p:Nat) (w:World) (h:Rdr w p s) (hs:s.size<=281474976710656) :
 Calls Tryz.prog 110 #[.pointer (some ⟨p,0,none⟩)] w fun e w'=>ZE (Im.rNum s) (fun n=>.int .i64 (n:Nat)) p w e w':=by
 have c:=h.c
 cases hf:Nm.Zm s.data.toList with
 | none =>
  have hQ:Hid (∀ w',On p w w'->ZE (Im.rNum s) (fun n=>.int .i64 (n:Nat)) p w (.panicked PN) w'):=fun w' h9=>ZaS (Im.ZjC hf) h9
  generalize ZE (Im.rNum s) (fun n=>.int .i64 (n:Nat)) p w=Q at *;have C1:=Zgg s w hs hf;clear hf h;go_enter Tryz.func110,Tryz.ntmps110
  go_wp2_with fail
  refine C1.mono ?_;rintro e w1 ⟨rfl,G⟩;go_wp2_with fail
  refine (Zfu _).mono ?_;rintro e w2 ⟨rfl,rfl⟩;go_wp2_with fail
  exact ⟨rfl,hQ.out _ (On.of G)⟩
 | some x =>
  obtain ⟨n,k⟩:=x;have hQ:Hid (∀ w',On p w w'->Rdr w' p (s.extract k s.size)->ZE (Im.rNum s) (fun n=>.int .i64 (n:Nat)) p w (.returned (.int .i64 (n:Nat))) w'):=fun w' h9 h8=>Zbl (Im.ZdO hf) h9 h8
  generalize ZE (Im.rNum s) (fun n=>.int .i64 (n:Nat)) p w=Q at *;have C1:=Zbt s w n k hs hf;have hR:Hid (∀ w',Below w.heap.size w w'->Rdr w' p s):=fun w' h9=>h.below h9
  clear hf h;generalize s.extract k s.size=r at *;go_enter Tryz.func110,Tryz.ntmps110
  go_wp2_with fail
  refine C1.mono ?_;rintro e w1 ⟨rfl,G⟩;go_wp2_with fail
  refine (ZdE _).mono ?_;rintro e w2 ⟨rfl,rfl⟩;have R1:=hR.out _ G;have c1:=R1.c;have f1:=R1.f;go_wp2_with fail
  exact hQ.out _ ((On.of G).set _) (R1.set _)
namespace Im
theorem Zob {m:Nat} {s:ByteArray} {n k:Nat} (h:Nm.Zm s.data.toList=some (n,k)) (h1:n<=m) (h2:k+n<=s.size):rCnt m s=some (s.extract k (k+n),s.extract (k+n) s.size):=by
 have hk:=(Nm.Zaj h).2.2.1;have hz:(s.extract k s.size).size=s.size - k:=by simp
 unfold rCnt;rw [ZdO h];simp only;rw [if_pos ⟨h1,by omega⟩]
 congr 2
 ·apply Nm.ZF;rw [Zbk,Zap];simp [ByteArray.data_extract,Array.toList_extract,List.extract]
 ·apply Nm.ZF;rw [Zap,Zap,Zap,List.drop_drop]
theorem Zqk {m:Nat} {s:ByteArray} {n k:Nat} (h:Nm.Zm s.data.toList=some (n,k)) (h1:m<n\/s.size<k+n):rCnt m s=none:=by
 have hk:=(Nm.Zaj h).2.2.1;rw [<-Zq] at hk;have hz:(s.extract k s.size).size=s.size - k:=by simp
 unfold rCnt;rw [ZdO h];simp only;rw [if_neg (by omega)]
theorem ZnD {m:Nat} {s:ByteArray} (h:Nm.Zm s.data.toList=none):rCnt m s=none:=by unfold rCnt;rw [ZjC h]
end Im
theorem ZeQ (s:ByteArray) (p:Nat) (w:World) (h:Rdr w p s) (hs:s.size<=281474976710656) :
 Calls Tryz.prog 111 #[.pointer (some ⟨p,0,none⟩)] w fun e w'=>ZE (Im.rCnt 512 s) Value.string p w e w':=by
 have c:=h.c
 have bad:Im.rCnt 512 s=none->(Calls Tryz.prog 142 #[.string s] w fun e w'=>e=.returned (.tuple #[.string ⟨#[]⟩,.string ⟨#[]⟩,.int .i64 1])/\Below w.heap.size w w')->Calls Tryz.prog 111 #[.pointer (some ⟨p,0,none⟩)] w fun e w'=>ZE (Im.rCnt 512 s) Value.string p w e w':=by
  intro hu C1;have hQ:Hid (∀ w',On p w w'->ZE (Im.rCnt 512 s) Value.string p w (.panicked PN) w'):=fun w' h9=>ZaS hu h9
  generalize ZE (Im.rCnt 512 s) Value.string p w=Q at *;clear hu h;go_enter Tryz.func111,Tryz.ntmps111
  go_wp2_with fail
  refine C1.mono ?_;rintro e w1 ⟨rfl,G⟩;go_wp2_with fail
  refine (Zfu _).mono ?_;rintro e w2 ⟨rfl,rfl⟩;go_wp2_with fail
  exact ⟨rfl,hQ.out _ (On.of G)⟩
 cases hf:Nm.Zm s.data.toList with
 | none=>exact bad (Im.ZnD hf) (Zfk s w hs hf)
 | some x =>
  obtain ⟨n,k⟩:=x;by_cases hb:512<n\/s.size<k+n
  ·exact bad (Im.Zqk hf hb) (Zil s w n k hs hf hb)
  ·have hu:=Im.Zob (m:=512) hf (by omega) (by omega);have C1:=ZgE s w n k hs hf (by omega) (by omega);have hQ:Hid (∀ w',On p w w'->Rdr w' p (s.extract (k+n) s.size)->ZE (Im.rCnt 512 s) Value.string p w (.returned (.string (s.extract k (k+n)))) w'):=fun w' h9 h8=>Zbl hu h9 h8
   generalize ZE (Im.rCnt 512 s) Value.string p w=Q at *;have hR:Hid (∀ w',Below w.heap.size w w'->Rdr w' p s):=fun w' h9=>h.below h9
   clear hf h hu bad hb;generalize s.extract (k+n) s.size=r at *;generalize s.extract k (k+n)=u at *;go_enter Tryz.func111,Tryz.ntmps111
   go_wp2_with fail
   refine C1.mono ?_;rintro e w1 ⟨rfl,G⟩;go_wp2_with fail
   refine (ZdE _).mono ?_;rintro e w2 ⟨rfl,rfl⟩;have R1:=hR.out _ G;have c1:=R1.c;have f1:=R1.f;go_wp2_with fail
   exact hQ.out _ ((On.of G).set _) (R1.set _)
end Go.Proofs.YtbjbjbpgmojcbacGreat
