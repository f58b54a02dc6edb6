/- A part of the proof: what it leans on. -/
import Derived.Lib.AppendZerosOnto
import Derived.Lib.Overlaps
import Derived.Lib.SliceRun
import Derived.Shelf.Spec.SlicesInsert
import Derived.Laws.CopyRow
import Derived.Test.YtbjbjbpgmojcbabGreatLsBook09
set_option maxRecDepth 8000
set_option maxHeartbeats 8000000
namespace Go.Proofs.YtbjbjbpgmojcbabGreat
open Go.RowKit
namespace Ar
def ZkN (a:A) (k:Nat):ByteArray:=if k=0 then ⟨#[]⟩ else (fa a.files (k - 1)).name
theorem ZpX {b:ByteArray} (h:isNm b=true):0<b.size:=by
 unfold isNm at h;rw [Bool.and_eq_true] at h;have:=of_decide_eq_true h.1;omega
theorem ZtD {b:ByteArray} (h:isNm b=true):b.size<=12:=by
 unfold isNm at h;rw [Bool.and_eq_true] at h;have:=of_decide_eq_true h.1;omega
theorem ZuO (n:ByteArray):Tr.bl n ⟨#[]⟩=false:=by
 unfold Tr.bl;rw [show (⟨#[]⟩:ByteArray).toList=[] by rw [ByteArray.toList_eq]]
 cases n.toList <;> rfl
theorem ZuM {a:A} {k:Nat} (hn:isNm (fa a.files k).name=true) :
 (decide (k=0) || Tr.bl (fa a.files (k - 1)).name (fa a.files k).name)=!(Op.bytesLess (fa a.files k).name.toList (ZkN a k).toList || ((fa a.files k).name.toList == (ZkN a k).toList)):=by
 have hp:=ZpX hn;unfold ZkN;by_cases h0:k=0
 ·subst h0;rw [if_pos rfl];have h1:=ZuO (fa a.files 0).name;unfold Tr.bl at h1;have e2:decide ((fa a.files 0).name=⟨#[]⟩)=false:=dF (fun e=>by rw [e] at hp;exact absurd hp (Nat.lt_irrefl 0));rw [h1,ZdM,e2];simp
 ·rw [if_neg h0,decide_eq_false h0,Bool.false_or,ZdM];generalize (fa a.files (k - 1)).name=l;generalize (fa a.files k).name=n
  cases h1:Tr.bl l n with
  | true =>
   have h2:=ZpA h1;unfold Tr.bl at h2;rw [h2,decide_eq_false]
   ·rfl
   ·rintro rfl;rw [Tr.ZcJ] at h1;cases h1
  | false =>
   cases h2:Tr.bl n l with
   | true=>unfold Tr.bl at h2;rw [h2];rfl
   | false=>rw [Tr.ZfX h2 h1];simp
theorem ZbU {a:A} {k:Nat} (hk:k<a.files.length) (h:okAt a k=false):gdK a a.files.length=false:=by
 cases hg:gdK a a.files.length with
 | false=>rfl
 | true=>rw [Zfs hg hk] at h;cases h
def txK (a:A) (k:Nat):List ByteArray:=(a.files.take k).map (tx a.dicts)
theorem Zkm {a:A} {k:Nat} (h:k<a.files.length):txK a (k+1)=txK a k++[tx a.dicts (fa a.files k)]:=by
 unfold txK;rw [ZQ h,List.map_append];rfl
theorem Znm (a:A):txK a a.files.length=txs a:=by unfold txK txs;rw [List.take_length]
end Ar
theorem Zfb {w:World} {base:Nat} {v:Value} {L:List ByteArray} (h:w.ownsRow base 9 1 v L.length (L.map Value.string)):∃ ad cap,v=.slice ad L.length cap/\L.length<=cap/\Tr.TxFar base w ad L:=by
 rcases h.2 with ⟨h1,h2⟩ | ⟨g,cap,cur,h1,h2,h3,h4,h5,h6,h7⟩
 ·obtain rfl:L=[]:=lZ.1 h2;exact ⟨none,0,h1,nl _,.inl rfl⟩
 ·refine ⟨some ⟨g,0,none⟩,cap,h1,h4,.inr ⟨g,0,rfl,h2,(aG.1 h3).1,fun i hi=>?_⟩⟩;have e:(cur.toList.take (L.length*1))[i]?=(L.map Value.string)[i]?:=by rw [h7]
  rw [Nat.mul_one,List.getElem?_take_of_lt hi] at e;simp only [World.cell?,h3,Nat.zero_add];simp only [Option.isSome_none,Bool.false_eq_true,if_false];rw [<-Array.getElem?_toList,e];simp [Tr.xa,hi]
theorem TxFar.sl {lo:Nat} {w:World} {ad:Option Addr} {L:List ByteArray} (h:Tr.TxFar lo w ad L):TxSl w ad L:=by
 rcases h with h | ⟨b,off,h1,_,h2⟩
 ·exact .inl h
 ·exact .inr ⟨b,off,h1,h2⟩
theorem FlSl.at {w:World} {ad:Option Addr} {fs:List Ar.F} (h:FlSl w ad fs) {i:Nat} (hi:i<fs.length):∃ b off,ad=some ⟨b,off,none⟩/\b<w.heap.size/\FlC w b (off+i*5) (Ar.fa fs i):=by
 rcases h with rfl | ⟨b,off,h1,h2⟩
 ·simp at hi
 ·exact ⟨b,off,h1,h2.1,h2.2 i hi⟩
def Zag (a:Ar.A) (w:World) (e:Ending) (w':World):Prop:=∃ ad cap L,e=.returned (.tuple #[.slice ad (L:List ByteArray).length cap,.int .i64 (Ar.chk a)])/\L.length<=cap/\Tr.TxFar w.heap.size w' ad L/\(Ar.chk a=0->L=Ar.txs a)/\(Ar.chk a ≠ 0->L=[]/\ad=none/\cap=0)/\Below w.heap.size w w'
theorem ZnE {a:Ar.A} {w w':World} (hb:Below w.heap.size w w') (hc:Ar.chk a ≠ 0):Zag a w (.returned (.tuple #[.slice none 0 0,.int .i64 (Ar.chk a)])) w' :=
 ⟨none,0,[],rfl,nl _,.inl rfl,fun h=>absurd h hc,fun _=>⟨rfl,rfl,rfl⟩,hb⟩
theorem Zlf (ad af:Option Addr) (cd cf:Nat) (a:Ar.A) (w:World) (h:ArV w ad af a) (hs:SaneA a) (hm:Ar.many a=true) :
 Calls Tryz.prog 61 #[av ad cd af cf a] w fun e w'=>Zag a w e w':=by
 have hc:Ar.chk a=2:=by unfold Ar.chk;rw [if_pos hm]
 have hb:=fun o=>(bR w.heap.size w).alloc (nl _) o
 have c1:=fun w hx=>ZdH ad af cd cf a w hx hs
 rw [hm] at c1;have HX:Hid (∀ o,TxSl (w.alloc o) ad a.dicts):=fun o=>h.ds.below (hb o)
 have HE:Hid (∀ w',Below w.heap.size w w'->Zag a w (.returned (.tuple #[.slice none 0 0,.int .i64 2])) w'):=fun w' h9=>by rw [<-hc];exact ZnE h9 (by rw [hc];decide)
 have C1:Hid (∀ o,Calls Tryz.prog 97 #[av ad cd af cf a] (w.alloc o) fun e w'=>e=.returned (.bool true)/\Below (w.alloc o).heap.size (w.alloc o) w'):=fun o=>c1 _ (HX.out o)
 clear c1 h hs hc;unfold av at C1 |-
 clear HX hm;generalize a.dicts.length=D at *;generalize a.files.length=F at *;go_enter Tryz.func61,Tryz.ntmps61
 go_wp2_with fail
 refine (C1.out _).mono ?_;rintro e w1 ⟨rfl,G⟩;go_wp2_with fail
 go_ret2
 exact HE.out _ (bch (hb _) G (nl _))
theorem Zlu (ad af:Option Addr) (cd cf:Nat) (a:Ar.A) (w:World) (h:ArV w ad af a) (hs:SaneA a) (hm:Ar.many a=false) :
 Calls Tryz.prog 61 #[av ad cd af cf a] w fun e w'=>Zag a w e w':=by
 obtain ⟨m1,m2,m3⟩:=Ar.Zw.1 hm;obtain ⟨i0,hi,hz0,hz1,hz2⟩:=info_parts (P:=Tryz.prog) (e:=9) (z:=.string ⟨#[]⟩) (size:=1) (bytes:=16) (by kernel_rfl);have HC:Hid (Ar.chk a=if Ar.gdK a a.files.length=true then 0 else 1):=by show _=_;unfold Ar.chk;rw [hm];rfl
 have hb:=fun o=>(bR w.heap.size w).alloc (nl _) o
 have c1:=fun o=>ZdH ad af cd cf a (w.alloc o) (h.ds.below (hb o)) hs
 rw [hm] at c1
 have HB:Hid (∀ w',Below w.heap.size w w'->Ar.gdK a a.files.length=false->Zag a w (.returned (.tuple #[.slice none 0 0,.int .i64 1])) w'):=fun w' h9 hg=>by
  have hc:Ar.chk a=1:=by rw [HC.out,hg];rfl
  rw [<-hc];exact ZnE h9 (by rw [hc];decide)
 have HG:Hid (∀ w' v base,w.heap.size<=base->Below w.heap.size w w'->Ar.gdK a a.files.length=true->w'.ownsRow base 9 1 v a.files.length ((Ar.txs a).map Value.string)->Zag a w (.returned (.tuple #[v,.int .i64 0])) w'):=fun w' v base hbs h9 hg ho=>by
  have hc:Ar.chk a=0:=by rw [HC.out,hg];rfl
  have hl:(Ar.txs a).length=a.files.length:=by unfold Ar.txs;rw [List.length_map]
  rw [<-hl] at ho;obtain ⟨ad',cap',rfl,h4,h5⟩:=Zfb ho;refine ⟨ad',cap',Ar.txs a,by rw [hc],h4,?_,fun _=>rfl,fun h8=>absurd hc h8,h9⟩;rcases h5 with h5 | ⟨b,off,h6,h7,h8⟩
  ·exact .inl h5
  ·exact .inr ⟨b,off,h6,by omega,h8⟩
 have HFl:Hid (∀ w',Below w.heap.size w w'->∀ k,k<a.files.length->∃ b off,af=some ⟨b,off,none⟩/\b<w'.heap.size/\FlC w' b (off+k*5) (Ar.fa a.files k)):=fun w' h9 k hk=>(h.fs.below h9).at hk
 have HU:Hid (∀ w',Below w.heap.size w w'->∀ k,Calls Tryz.prog 98 #[av ad cd af cf a,fv (Ar.fa a.files k)] w' fun e w2=>e=.returned (.tuple #[.string (Ar.ukT a.dicts (Ar.fa a.files k)),.bool (Ar.okf a.dicts (Ar.fa a.files k))])/\Below w'.heap.size w' w2):=fun w' h9 k=>Zfg ad af cd cf a _ w' (h.ds.below h9) hs (hs.bk k)
 have HN:Hid (∀ k,(Ar.fa a.files k).name.size<=140737488355328):=hs.nm
 have HZ:Hid (∀ k,Ar.okf a.dicts (Ar.fa a.files k)=true->(Ar.ukT a.dicts (Ar.fa a.files k)).size<=512/\Ar.ukT a.dicts (Ar.fa a.files k)=Ar.tx a.dicts (Ar.fa a.files k)):=fun k h9=>by
  have e:Ar.ukT a.dicts (Ar.fa a.files k)=Ar.tx a.dicts (Ar.fa a.files k):=by unfold Ar.ukT;rw [if_pos h9]
  rw [e];have h8:=(Bool.and_eq_true _ _ ▸ h9:_/\_).2;exact ⟨Bk.unp_size (of_decide_eq_true h8).1,rfl⟩
 clear h hs hm HC m3;unfold av at c1 HU |-
 unfold fv at HU
 obtain ⟨D,hD⟩:∃ D,a.dicts.length=D:=⟨_,rfl⟩
 obtain ⟨N,hN⟩:∃ N,a.files.length=N:=⟨_,rfl⟩
 rw [hD,hN] at c1 |-
 simp only [hD,hN] at HU HFl HG HB;have HNN:Hid (a.files.length=N):=hN;rw [hN] at m2;clear hN hD m1;have hN':(N:Int)<=12:=by omega
 go_enter Tryz.func61,Tryz.ntmps61
 go_wp2_with fail
 refine (c1 _).mono ?_;rintro e w1 ⟨rfl,G⟩;clear c1;have hA:∀ i,w1.cell? ⟨w.heap.size,i,none⟩=(#[.slice ad D cd,.slice af N cf]:Array Value)[i]?:=fun i=>(G.cell (p:=⟨w.heap.size,i,none⟩) (by simp)).trans (cN _ _ _ i)
 have hzA:w.heap.size<w1.heap.size:=by have:=G.size;simp at this;omega
 have B1:=bch (hb (.cells #[.slice ad D cd,.slice af N cf] 25 (0,0))) G (nl _);have a0:w1.cell? ⟨w.heap.size,0,none⟩=some (.slice ad D cd):=hA 0;have a1:w1.cell? ⟨w.heap.size,1,none⟩=some (.slice af N cf):=hA 1;clear hA G;go_wp2_with fail
 go_loopw [4,5,15] (fun v l i wr=>∃ (k:Nat) (la:ByteArray),k<=N/\i=.int .i64 k/\l=.string la/\Hid (Ar.ZkN a k=la)/\Hid (Ar.gdK a k=true)/\wr.ownsRow w1.heap.size 9 1 v k ((Ar.txK a k).map Value.string)/\Below w1.heap.size w1 wr) (fun _ _ i _=>N - (intOf i).toNat)
 case atStart=>exact ⟨0,⟨#[]⟩,by omega,rfl,rfl,rfl,rfl,⟨rfl,.inl ⟨rfl,rfl⟩⟩,bR _ _⟩
 case round =>
  obtain ⟨k,la,hk2,rfl,rfl,HLA,HGK,hrow,B2⟩:=hrel;have a0':=(B2.cell (p:=⟨w.heap.size,0,none⟩) hzA).trans a0;have a1':=(B2.cell (p:=⟨w.heap.size,1,none⟩) hzA).trans a1;have B3:=bch B1 B2 (nl _);have hzr:w.heap.size+1<=wr.heap.size:=by have:=B2.size;omega
  have hzr':w.heap.size<wr.heap.size:=hzr;by_cases hlt:k<N
  ·have d1:decide ((k:Int)<(N:Int))=true:=by simp;omega
   have d1':decide (k<N)=true:=by simp;omega
   have hki:(k:Int)<(N:Int):=by omega
   obtain ⟨b,off,rfl,hbl,hc⟩:=HFl.out wr B3 k hlt;obtain ⟨c0,c1,c2,c3,c4⟩:=hc;have c5:=fun w=>Zaz (Ar.fa a.files k).name w (HN.out k)
   have hkl:Hid (k<a.files.length):=by show _<_;rw [HNN.out];exact hlt
   have HOK:Hid (∀ x y z,Ar.isNm (Ar.fa a.files k).name=x->(decide (k=0) || Tr.bl (Ar.fa a.files (k - 1)).name (Ar.fa a.files k).name)=y->Ar.okf a.dicts (Ar.fa a.files k)=z->Ar.okAt a k=(x && y && z)):=fun x y z h1 h2 h3=>by unfold Ar.okAt;rw [h1,h2,h3]
   have c6:=fun w' hb=>HU.out w' hb k
   have HZk:=HZ.out k;have HTK:Hid (Ar.txK a (k+1)=Ar.txK a k++[Ar.tx a.dicts (Ar.fa a.files k)]):=Ar.Zkm hkl.out
   cases hnm:Ar.isNm (Ar.fa a.files k).name with
   | false =>
    have hg:Hid (Ar.gdK a N=false):=by
     show _=_;rw [<-HNN.out];refine Ar.ZbU hkl.out ?_;rw [HOK.out false _ _ hnm rfl rfl];rfl
    rw [hnm] at c5;clear hnm HOK c6 HZk HTK;generalize (Ar.fa a.files k).name=f0 at *;generalize (Ar.fa a.files k).dict=f1 at *;generalize (Ar.fa a.files k).size=f2 at *;generalize (Ar.fa a.files k).sum=f3 at *;generalize (Ar.fa a.files k).blk=f4 at *;go_wp2_with fail
    refine (c5 _).mono ?_;rintro e w2 ⟨rfl,rfl⟩;go_wp2_with fail
    go_ret2
    exact HB.out _ (B3.alloc B3.size _) hg.out
   | true =>
    have hord:=Ar.ZuM hnm;rw [HLA.out] at hord;rw [hnm] at c5
    cases hoo:(Op.bytesLess (Ar.fa a.files k).name.toList la.toList || ((Ar.fa a.files k).name.toList == la.toList)) with
    | true =>
     rw [hoo] at hord
     have hg:Hid (Ar.gdK a N=false):=by
      show _=_;rw [<-HNN.out];refine Ar.ZbU hkl.out ?_;rw [HOK.out true false _ hnm hord rfl];rfl
     clear hnm HOK c6 HZk hord HTK;generalize (Ar.fa a.files k).name=f0 at *;generalize (Ar.fa a.files k).dict=f1 at *;generalize (Ar.fa a.files k).size=f2 at *;generalize (Ar.fa a.files k).sum=f3 at *;generalize (Ar.fa a.files k).blk=f4 at *;go_wp2_with fail
     refine (c5 _).mono ?_;rintro e w2 ⟨rfl,rfl⟩;go_wp2_with fail
     go_ret2
     exact HB.out _ (B3.alloc B3.size _) hg.out
    | false =>
     rw [hoo] at hord
     cases hof:Ar.okf a.dicts (Ar.fa a.files k) with
     | false =>
      have hg:Hid (Ar.gdK a N=false):=by
       show _=_;rw [<-HNN.out];refine Ar.ZbU hkl.out ?_;rw [HOK.out true true false hnm hord hof];rfl
      rw [hof] at c6;clear hnm HOK HZk hord hof HTK;generalize Ar.ukT a.dicts (Ar.fa a.files k)=T at *;generalize (Ar.fa a.files k).name=f0 at *;generalize (Ar.fa a.files k).dict=f1 at *;generalize (Ar.fa a.files k).size=f2 at *;generalize (Ar.fa a.files k).sum=f3 at *;generalize (Ar.fa a.files k).blk=f4 at *;have c7:=c6 _ (B3.alloc B3.size (.cells #[.string f0,.int .i64 f1,.int .i64 f2,.int .i64 f3,.string f4] 46 (0,0)));clear c6;go_wp2_with fail
      refine (c5 _).mono ?_;rintro e w2 ⟨rfl,rfl⟩;go_wp2_with fail
      refine c7.mono ?_;rintro e w3 ⟨rfl,G⟩;go_wp2_with fail
      go_ret2
      exact HB.out _ (bch (B3.alloc B3.size _) G (nl _)) hg.out
     | true =>
      obtain ⟨hT5,hTT⟩:=HZk hof;have hok:Hid (Ar.gdK a (k+1)=true):=by show _=_;rw [Ar.gdK,HGK.out,HOK.out true true true hnm hord hof];rfl
      have hla:Hid (Ar.ZkN a (k+1)=(Ar.fa a.files k).name):=by show _=_;unfold Ar.ZkN;rw [if_neg (by omega)];rfl
      rw [<-hTT] at HTK;rw [hof] at c6;clear hnm HOK HZk hord hof hTT;generalize Ar.ukT a.dicts (Ar.fa a.files k)=T at *;generalize (Ar.fa a.files k).name=f0 at *;generalize (Ar.fa a.files k).dict=f1 at *;generalize (Ar.fa a.files k).size=f2 at *;generalize (Ar.fa a.files k).sum=f3 at *;generalize (Ar.fa a.files k).blk=f4 at *;have c7:=c6 _ (B3.alloc B3.size (.cells #[.string f0,.int .i64 f1,.int .i64 f2,.int .i64 f3,.string f4] 46 (0,0)));clear c6;go_wp2_with fail
      refine (c5 _).mono ?_;rintro e w2 ⟨rfl,rfl⟩;go_wp2_with fail
      refine c7.mono ?_;rintro e w3 ⟨rfl,G⟩;have hrow3:=Zh (hrow.alloc (.cells #[.string f0,.int .i64 f1,.int .i64 f2,.int .i64 f3,.string f4] 46 (0,0))) G;have B4:Below w1.heap.size w1 w3:=bch (B2.alloc B2.size (.cells #[.string f0,.int .i64 f1,.int .i64 f2,.int .i64 f3,.string f4] 46 (0,0))) G (nl _);have hz3:=B4.size;clear G B2 B3 hrow c5 c7 c0 c1 c2 c3 c4 hbl
      go_wp2_with (first
       | (at_builtin;refine wpList_append_own _ rfl _ _ 22 rfl w1.heap.size 9 i0 (.string ⟨#[]⟩) 1 16 U22 hi hz0 hz1 hz2 rfl (by decide) _ _ _ rfl (hrow3.alloc _) ⟨w3.heap.size,0,none⟩ 1 1 [.string T] rfl rfl (cell_one_new _ _ _) (by simp [Value.oneCell']) (by unfold maxLen at *;omega) (by omega) (by simp;omega) ?_;intro v' w4 hown' hg4 hnil4;go_frame)
       | fail)
      have B5:Below w1.heap.size w1 w4:=(B4.alloc B4.size (.cells #[.string T] 9 (0,0))).grown hg4 (by simp;omega) (fun j hj=>(hrow3.lt j hj).1);go_roundw
      case rel=>exact ⟨k+1,f0,by omega,by go_num,rfl,hla,hok,by rw [HTK.out,List.map_append];exact hown',B5⟩
      case measure=>simp [intOf];omega
  ·obtain rfl:k=N:=by omega
   have d1:decide ((k:Int)<(k:Int))=false:=by simp
   have HTA:Hid (Ar.txK a k=Ar.txs a):=by show _=_;rw [<-HNN.out];exact Ar.Znm a
   rw [HTA.out] at hrow;have hfin:=HG.out wr _ w1.heap.size B1.size B3 HGK.out hrow;clear hrow;go_wp2_with fail
   go_ret2
   exact hfin
theorem ZbO (ad af:Option Addr) (cd cf:Nat) (a:Ar.A) (w:World) (h:ArV w ad af a) (hs:SaneA a) :
 Calls Tryz.prog 61 #[av ad cd af cf a] w fun e w'=>Zag a w e w':=by
 cases hm:Ar.many a with
 | true=>exact Zlf ad af cd cf a w h hs hm
 | false=>exact Zlu ad af cd cf a w h hs hm
theorem ZiK (f:Ar.F) (name:ByteArray) (w:World) :
 Calls Tryz.prog 89 #[fv f,.string name] w fun e w'=>e=.returned (.int .i64 (Lib.compareBytes f.name.data.toList name.data.toList))/\Below w.heap.size w w':=by
 have c1:=fun w=>Tryz.strings_Compare f.name name w
 unfold fv;generalize Lib.compareBytes f.name.data.toList name.data.toList=r at *;generalize f.name=f0 at *;go_enter Tryz.func89,Tryz.ntmps89
 go_wp2_with fail
 refine (c1 _).mono ?_;rintro e w1 ⟨rfl,rfl⟩;go_wp2_with fail
 go_ret
 exact ⟨rfl,(bR _ _).alloc (nl _) _⟩
theorem Zey:∀ (x y:List UInt8),(Lib.compareBytes x y=0) ↔ x=y
 | [],[]=>by simp [Lib.compareBytes]
 | _ :: _,[]=>by simp [Lib.compareBytes]
 | [],_ :: _=>by simp [Lib.compareBytes]
 | a :: x,b :: y=>by
  rw [Lib.compareBytes];have ih:=Zey x y;by_cases h1:a<b
  ·have h3:a ≠ b:=by rintro rfl;exact absurd h1 (UInt8.lt_irrefl _)
   simp [h1,h3]
  ·by_cases h2:b<a
   ·have h3:a ≠ b:=by rintro rfl;exact h1 h2
    simp [h1,h2,h3]
   ·have h3:a=b:=UInt8.le_antisymm (UInt8.not_lt.1 h2) (UInt8.not_lt.1 h1);subst h3;simpa [h1] using ih
theorem Ztg (a b:ByteArray):decide (Lib.compareBytes a.data.toList b.data.toList=0)=decide (a=b):=by
 by_cases h:a=b
 ·subst h;rw [decide_eq_true ((Zey _ _).2 rfl),decide_eq_true rfl]
 ·rw [decide_eq_false h,decide_eq_false];intro e;apply h;apply Tr.Zbq;rw [ByteArray.toList_eq,ByteArray.toList_eq];exact (Zey _ _).1 e
theorem ZiU (b off cap:Nat) (fs:List Ar.F) (name:ByteArray) (w:World) (h:FlAt w b off fs) (hn:fs.length<=100000) (hs:Ar.Srt fs) :
 Calls Tryz.prog 88 #[.slice (some ⟨b,off,none⟩) fs.length cap,.string name,.func (.func 89) #[] #[]] w fun e w'=>e=.returned (.tuple #[.int .i64 (Ar.pos fs name:Nat),.bool (Ar.ZK fs name)])/\Below w.heap.size w w':=by
 have HF:Hid (∀ w',Below w.heap.size w w'->∀ k,k<fs.length->FlC w' b (off+k*5) (Ar.fa fs k)):=fun w' h9 k hk=>(h.below h9).2 k hk
 have HC:Hid (∀ k w,Calls Tryz.prog 89 #[fv (Ar.fa fs k),.string name] w fun e w'=>e=.returned (.int .i64 (Lib.compareBytes (Ar.fa fs k).name.data.toList name.data.toList))/\Below w.heap.size w w'):=fun k w=>ZiK _ name w
 have HP:Hid (∀ i,i<=fs.length->(∀ k,k<i->Tr.bl (Ar.fa fs k).name name=true)->(i<fs.length->Tr.bl (Ar.fa fs i).name name=false)->Ar.pos fs name=i):=fun i h1 h2 h3=>Ar.ZqX h1 h2 h3
 have HT:Hid (Ar.ZK fs name=decide (Ar.pos fs name<fs.length/\(Ar.fa fs (Ar.pos fs name)).name=name)):=rfl;have HSr:Hid (∀ i j,i<j->j<fs.length->Tr.bl (Ar.fa fs i).name (Ar.fa fs j).name=true):=hs;clear h hs
 obtain ⟨p,hp⟩:∃ p,Ar.pos fs name=p:=⟨_,rfl⟩
 obtain ⟨r,hr⟩:∃ r,Ar.ZK fs name=r:=⟨_,rfl⟩
 rw [hp,hr];rw [hp,hr] at HT;rw [hp] at HP;clear hp hr;unfold fv at HC;generalize hN:fs.length=N at *;have hNi:(N:Int)<=100000:=by omega
 clear hN;go_enter Tryz.func88,Tryz.ntmps88
 go_wp2_with fail
 go_loopw [9,10] (fun i j wr=>∃ I J:Nat,I<=J/\J<=N/\i=.int .i64 I/\j=.int .i64 J/\Hid (∀ k,k<I->Tr.bl (Ar.fa fs k).name name=true)/\Hid (J<N->Tr.bl (Ar.fa fs J).name name=false)/\Below w.heap.size w wr) (fun i j _=>(intOf j).toNat - (intOf i).toNat)
 case atStart=>exact ⟨0,N,by omega,by omega,rfl,rfl,fun k hk=>by omega,fun h9=>by omega,bR _ _⟩
 case round =>
  obtain ⟨I,J,hIJ,hJN,rfl,rfl,H1,H2,B1⟩:=hrel;by_cases hlt:I<J
  ·have d1:decide ((I:Int)<(J:Int))=true:=zdT (by omega);have hlt':(I:Int)<(J:Int):=by omega
   obtain ⟨M,hM⟩:∃ M,(I+J) / 2=M:=⟨_,rfl⟩
   have hM1:I<=M/\M<J:=by omega
   obtain ⟨c0,c1,c2,c3,c4⟩:=HF.out wr B1 M (by omega);have c5:=HC.out M;have hMi:(M:Int)<=100000:=by omega
   have hMN:(M:Int)<(N:Int):=by omega
   have hMN':M<N:=by omega
   have hbl:=Tr.ZmE (Ar.fa fs M).name name
   obtain ⟨x,hx⟩:∃ x,Lib.compareBytes (Ar.fa fs M).name.data.toList name.data.toList=x:=⟨_,rfl⟩
   rw [hx] at c5 hbl;clear hx
   cases hq:Tr.bl (Ar.fa fs M).name name with
   | true =>
    have K1:Hid (∀ k,k<M+1->Tr.bl (Ar.fa fs k).name name=true):=fun k hk=>by
     by_cases e:k=M
     ·subst e;exact hq
     ·exact Tr.ZcN (HSr.out k M (by omega) hMN') hq
    rw [hq] at hbl;have hx0:x<0:=of_decide_eq_true hbl;clear hq;generalize (Ar.fa fs M).name=f0 at *;generalize (Ar.fa fs M).dict=f1 at *;generalize (Ar.fa fs M).size=f2 at *;generalize (Ar.fa fs M).sum=f3 at *;generalize (Ar.fa fs M).blk=f4 at *;go_wp2_with fail
    refine (c5 _).mono ?_;rintro e w1 ⟨rfl,G⟩;have B2:=bch B1 G (nl _);go_wp2_with fail
    go_roundw
    case rel=>exact ⟨M+1,J,by omega,by omega,by go_num,rfl,K1,H2,B2⟩
    case measure=>simp [intOf];omega
   | false =>
    have K1:Hid (M<N->Tr.bl (Ar.fa fs M).name name=false):=fun _=>hq
    rw [hq] at hbl;have hx0:¬ x<0:=of_decide_eq_false hbl;clear hq;generalize hf0:(Ar.fa fs M).name=f0 at c0 c5 hbl;clear hf0;generalize (Ar.fa fs M).dict=f1 at *;generalize (Ar.fa fs M).size=f2 at *;generalize (Ar.fa fs M).sum=f3 at *;generalize (Ar.fa fs M).blk=f4 at *;go_wp2_with fail
    refine (c5 _).mono ?_;rintro e w1 ⟨rfl,G⟩;have B2:=bch B1 G (nl _);go_wp2_with fail
    go_roundw
    case rel=>exact ⟨I,M,by omega,by omega,rfl,by go_num,H1,K1,B2⟩
    case measure=>simp [intOf];omega
  ·obtain rfl:I=J:=by omega
   have d1:decide ((I:Int)<(I:Int))=false:=by simp
   have hp:Hid (p=I):=HP.out I hJN H1.out H2.out;rw [hp.out] at HT;by_cases hIN:I<N
   ·have d2:decide ((I:Int)<(N:Int))=true:=zdT (by omega);have hIi:(I:Int)<(N:Int):=by omega
    obtain ⟨c0,c1,c2,c3,c4⟩:=HF.out wr B1 I hIN;have c5:=HC.out I;have hbl:=Ztg (Ar.fa fs I).name name
    obtain ⟨x,hx⟩:∃ x,Lib.compareBytes (Ar.fa fs I).name.data.toList name.data.toList=x:=⟨_,rfl⟩
    rw [hx] at c5 hbl
    have hr:Hid (r=decide (x=0)):=by
     show _=_;rw [hbl,HT.out];by_cases e:(Ar.fa fs I).name=name
     ·rw [decide_eq_true e,decide_eq_true ⟨hIN,e⟩]
     ·rw [decide_eq_false e,decide_eq_false (fun h9=>e h9.2)]
    clear hx hbl H1 H2 HT HP HSr;generalize (Ar.fa fs I).name=f0 at *;generalize (Ar.fa fs I).dict=f1 at *;generalize (Ar.fa fs I).size=f2 at *;generalize (Ar.fa fs I).sum=f3 at *;generalize (Ar.fa fs I).blk=f4 at *;by_cases hx0:x=0
    ·subst hx0;go_wp2_with fail
     refine (c5 _).mono ?_;rintro e w1 ⟨rfl,G⟩;have B2:=bch B1 G (nl _);go_wp2_with fail
     go_ret2
     exact ⟨by rw [hp.out,hr.out];rfl,B2⟩
    ·have e1:(x == 0)=false:=by simpa using hx0
     have e2:decide (x=0)=false:=dF hx0;go_wp2_with fail
     refine (c5 _).mono ?_;rintro e w1 ⟨rfl,G⟩;have B2:=bch B1 G (nl _);go_wp2_with fail
     go_ret2
     exact ⟨by rw [hp.out,hr.out,e2];rfl,B2⟩
   ·have d2:decide ((I:Int)<(N:Int))=false:=dF (by omega);have hIi:¬ (I:Int)<(N:Int):=by omega
    have hr:Hid (r=false):=by show _=_;rw [HT.out];exact dF (fun h9=>hIN h9.1)
    go_wp2_with fail
    go_ret2
    exact ⟨by rw [hp.out,hr.out];rfl,B1⟩
theorem Zlr (ad:Option Addr) (cap:Nat) (name:ByteArray) (fv:Value) (w:World) :
 Calls Tryz.prog 88 #[.slice ad 0 cap,.string name,fv] w fun e w'=>e=.returned (.tuple #[.int .i64 0,.bool false])/\Below w.heap.size w w':=by
 go_enter Tryz.func88,Tryz.ntmps88
 go_wp2_with fail
 go_loopw [9,10] (fun i j wr=>i=.int .i64 0/\j=.int .i64 0/\wr=w) (fun _ _ _=>0)
 case atStart=>exact ⟨rfl,rfl,rfl⟩
 case round =>
  obtain ⟨rfl,rfl,rfl⟩:=hrel;go_wp2_with fail
  go_ret2
  exact ⟨rfl,bR _ _⟩
theorem ZlD (ad:Option Addr) (cap:Nat) (fs:List Ar.F) (name:ByteArray) (w:World) (h:FlSl w ad fs) (hn:fs.length<=100000) (hs:Ar.Srt fs) :
 Calls Tryz.prog 88 #[.slice ad fs.length cap,.string name,.func (.func 89) #[] #[]] w fun e w'=>e=.returned (.tuple #[.int .i64 (Ar.pos fs name:Nat),.bool (Ar.ZK fs name)])/\Below w.heap.size w w':=by
 rcases h with rfl | ⟨b,off,rfl,h2⟩
 ·exact Zlr ad cap name _ w
 ·exact ZiU b off cap fs name w h2 hn hs
theorem ZbT (ad af:Option Addr) (cd cf:Nat) (a:Ar.A) (name:ByteArray) (w:World) (h:FlSl w af a.files) (hn:a.files.length<=100000) (hs:Ar.Srt a.files) :
 Calls Tryz.prog 51 #[av ad cd af cf a,.string name] w fun e w'=>e=.returned (.tuple #[.int .i64 (Ar.pos a.files name:Nat),.bool (Ar.ZK a.files name)])/\Below w.heap.size w w':=by
 have hb:=fun o=>(bR w.heap.size w).alloc (nl _) o
 have c1:=fun o=>ZlD af cf a.files name (w.alloc o) (h.below (hb o)) hn hs
 unfold av;clear h hn hs;generalize Ar.pos a.files name=p at *;generalize Ar.ZK a.files name=r at *;generalize a.dicts.length=D at *;generalize a.files.length=F at *;go_enter Tryz.func51,Tryz.ntmps51
 go_wp2_with fail
 refine (c1 _).mono ?_;rintro e w1 ⟨rfl,G⟩;go_wp2_with fail
 go_ret2
 exact ⟨rfl,bch (hb _) G (nl _)⟩
theorem Zx (ad af:Option Addr) (cd cf:Nat) (a:Ar.A) (w:World) (h:ArV w ad af a) (hs:SaneA a) :
 Calls Tryz.prog 18 #[av ad cd af cf a] w fun e w'=>e=.returned (.int .i64 (Ar.chk a))/\Below w.heap.size w w':=by
 have hb:=fun o=>(bR w.heap.size w).alloc (nl _) o
 have c1:=fun o=>ZbO ad af cd cf a (w.alloc o) (h.below (hb o)) hs
 unfold Zag at c1;unfold av at c1 |-
 generalize Ar.chk a=E at *;generalize Ar.txs a=TX at *;generalize a.dicts.length=D at *;generalize a.files.length=F at *;clear h hs;go_enter Tryz.func18,Tryz.ntmps18
 go_wp2_with fail
 refine (c1 _).mono ?_;rintro e w1 ⟨ad',cap',L,rfl,_,_,_,_,G⟩;clear c1;go_wp2_with fail
 go_ret
 exact ⟨rfl,bch (hb _) G (nl _)⟩
namespace Ar
end Ar
theorem ZR {w:World} {a:Addr} {v:Value} (h:w.cell? a=some v):w.setCell a v=w:=by
 have hh:(w.setCell a v).heap=w.heap:=by
  unfold World.setCell;simp only;apply Array.ext_getElem?;intro i;rw [Array.getElem?_modify];by_cases e:a.block=i
  ·subst e;rw [if_pos rfl];unfold World.cell? at h
   cases hb:w.heap[a.block]? with
   | none=>rfl
   | some o =>
    rw [hb] at h
    cases o with
    | cells c elem fr =>
     simp only [Option.map_some]
     congr 2
     simp only at h;split at h
     ·cases h
     ·rename_i hs
      rw [if_neg hs];obtain ⟨hlt,hv⟩:=aG.1 h;apply Array.ext_getElem?;intro j;rw [Array.getElem?_setIfInBounds];by_cases e2:a.off=j
      ·subst e2;simp [hlt,hv]
      ·simp [e2]
    | _=>cases h
  ·rw [if_neg e]
 have e:w.setCell a v={ w with heap:=(w.setCell a v).heap }:=rfl;rw [e,hh]
theorem Zb (w:World) (a:Addr) (v:Value):w.grownBy (w.setCell a v) (some a.block):=by
 refine ⟨rfl,rfl,rfl,by simp [World.setCell],fun k hk hne=>?_⟩;have:a.block ≠ k:=fun e=>hne (by rw [e])
 simp [World.setCell,Array.getElem?_modify,this]
structure ClS (w0 wr:World) (B base:Nat) (v1 v2:Value) (n1 n2:Nat) (xs1 xs2:List Value):Prop where
 c0:wr.cell? ⟨B,0,none⟩=some v1
 c1:wr.cell? ⟨B,1,none⟩=some v2
 f0:wr.frozen? ⟨B,0,none⟩=false
 f1:wr.frozen? ⟨B,1,none⟩=false
 o1:wr.ownsRow base 9 1 v1 n1 xs1
 o2:wr.ownsRow base 46 5 v2 n2 xs2
 ne:∀ j,v1.ownBlock=some j->v2.ownBlock ≠ some j
 hB:B<base
 hb:base<=wr.heap.size
 bel:Below B w0 wr
theorem Zat {w:World} {base:Nat} {e:TypeId} {size:Nat} {v:Value} {n:Nat} {xs:List Value} (h:w.ownsRow base e size v n xs) {b:Nat} (hb:b<base):some b ≠ v.ownBlock:=fun e1=>by have:=(h.lt b e1.symm).1;omega
theorem ClS.below {w0 wr w':World} {B base:Nat} {v1 v2:Value} {n1 n2:Nat} {xs1 xs2:List Value} (h:ClS w0 wr B base v1 v2 n1 n2 xs1 xs2) (hb:Below wr.heap.size wr w'):ClS w0 w' B base v1 v2 n1 n2 xs1 xs2:=by
 have hB:B<wr.heap.size:=nT h.hB h.hb
 exact ⟨(hb.cell (p:=⟨B,0,none⟩) hB).trans h.c0,(hb.cell (p:=⟨B,1,none⟩) hB).trans h.c1,(hb.frozen (p:=⟨B,0,none⟩) hB).trans h.f0,(hb.frozen (p:=⟨B,1,none⟩) hB).trans h.f1,
  Zh h.o1 hb,Zh h.o2 hb,h.ne,h.hB,nt h.hb hb.size,h.bel.trans (hb.mono (nL hB))⟩
theorem Ze {w w':World} {row:Option Nat} (hg:w.grownBy w' row) {b o:Nat} {v:Value} (h:w.cell? ⟨b,o,none⟩=some v) (hne:some b ≠ row):w'.cell? ⟨b,o,none⟩=some v:=hg.cell h hne
theorem Zr {w w':World} {row:Option Nat} (hg:w.grownBy w' row) {b o:Nat} (hb:b<w.heap.size) (h:w.frozen? ⟨b,o,none⟩=false) (hne:some b ≠ row):w'.frozen? ⟨b,o,none⟩=false:=(hg.frozen_far ⟨b,o,none⟩ hb hne).trans h
theorem ClS.put1 {w0 wr w2:World} {B base g cap n1 m n2:Nat} {v1 v2:Value} {xs1 ys xs2:List Value} {o:Obj} (h:ClS w0 wr B base v1 v2 n1 n2 xs1 xs2) (hg:(wr.alloc o).grownBy w2 v1.ownBlock)
 (ho:w2.ownsRow base 9 1 (.slice (some ⟨g,0,none⟩) m cap) m ys) (hl:v1.ownBlock=some g\/g=(wr.alloc o).heap.size) :
 (w2.cell? ⟨B,0,none⟩=some v1/\w2.frozen? ⟨B,0,none⟩=false)/\ClS w0 (w2.setCell ⟨B,0,none⟩ (.slice (some ⟨g,0,none⟩) m cap)) B base (.slice (some ⟨g,0,none⟩) m cap) v2 m n2 ys xs2:=by
 have hB:B<wr.heap.size:=nT h.hB h.hb;have hBa:B<(wr.alloc o).heap.size:=by simp;omega
 have ha:=h.below ((bR _ _).alloc (nl _) o);have n0:=Zat h.o1 h.hB;have k0:=Ze hg ha.c0 n0;have k1:=Ze hg ha.c1 n0;have q0:=Zr hg hBa ha.f0 n0;have q1:=Zr hg hBa ha.f1 n0;have hgb:base<=g:=(ho.lt g rfl).1;have hsg:=Zb w2 ⟨B,0,none⟩ (.slice (some ⟨g,0,none⟩) m cap);have hz:(wr.alloc o).heap.size<=w2.heap.size:=hg.size;refine ⟨⟨k0,q0⟩,cS _ _ _ k0,?_,by rw [World.frozen?_setCell];exact q0,by rw [World.frozen?_setCell];exact q1,ho.kept hsg (.inr (by simp [Value.ownBlock];have:=h.hB;omega)),?_,?_,h.hB,?_,?_⟩
 ·exact (cO w2 _ _ _ (by intro e;have:=congrArg Addr.off e;simp at this)).trans k1
 ·refine (ha.o2.kept hg ?_).kept hsg (.inr (Zat ha.o2 h.hB).symm)
  cases hv:v2.ownBlock with
  | none=>exact .inl rfl
  | some j=>exact .inr (fun e=>h.ne j e.symm hv)
 ·intro j hj e;simp [Value.ownBlock] at hj;subst hj;rcases hl with hl | hl
  ·exact h.ne g hl e
  ·have:=(h.o2.lt g e).2;simp at hl;omega
 ·show _<=(w2.setCell _ _).heap.size;have:=h.hb;simp [World.setCell] at *;omega
 ·exact ((h.bel.alloc (nL hB) o).grown hg (by simp;omega) (fun j hj=>by have:=(h.o1.lt j hj).1;have:=h.hB;omega)).setCell (nl _) _
theorem ClS.put2 {w0 wr w2:World} {B base g cap n1 m n2:Nat} {v1 v2:Value} {xs1 ys xs2:List Value} {o:Obj} (h:ClS w0 wr B base v1 v2 n1 n2 xs1 xs2) (hg:(wr.alloc o).grownBy w2 v2.ownBlock)
 (ho:w2.ownsRow base 46 5 (.slice (some ⟨g,0,none⟩) m cap) m ys) (hl:v2.ownBlock=some g\/g=(wr.alloc o).heap.size) :
 (w2.cell? ⟨B,1,none⟩=some v2/\w2.frozen? ⟨B,1,none⟩=false)/\ClS w0 (w2.setCell ⟨B,1,none⟩ (.slice (some ⟨g,0,none⟩) m cap)) B base v1 (.slice (some ⟨g,0,none⟩) m cap) n1 m xs1 ys:=by
 have hB:B<wr.heap.size:=nT h.hB h.hb;have hBa:B<(wr.alloc o).heap.size:=by simp;omega
 have ha:=h.below ((bR _ _).alloc (nl _) o);have n0:=Zat h.o2 h.hB;have k0:=Ze hg ha.c0 n0;have k1:=Ze hg ha.c1 n0;have q0:=Zr hg hBa ha.f0 n0;have q1:=Zr hg hBa ha.f1 n0;have hgb:base<=g:=(ho.lt g rfl).1;have hsg:=Zb w2 ⟨B,1,none⟩ (.slice (some ⟨g,0,none⟩) m cap);have hz:(wr.alloc o).heap.size<=w2.heap.size:=hg.size;refine ⟨⟨k1,q1⟩,?_,cS _ _ _ k1,by rw [World.frozen?_setCell];exact q0,by rw [World.frozen?_setCell];exact q1,?_,ho.kept hsg (.inr (by simp [Value.ownBlock];have:=h.hB;omega)),?_,h.hB,?_,?_⟩
 ·exact (cO w2 _ _ _ (by intro e;have:=congrArg Addr.off e;simp at this)).trans k0
 ·refine (ha.o1.kept hg ?_).kept hsg (.inr (Zat ha.o1 h.hB).symm)
  cases hv:v1.ownBlock with
  | none=>exact .inl rfl
  | some j=>exact .inr (fun e=>h.ne j hv e.symm)
 ·intro j hj e;simp [Value.ownBlock] at e;subst e;rcases hl with hl | hl
  ·exact h.ne g hj hl
  ·have:=(h.o1.lt g hj).2;simp at hl;omega
 ·show _<=(w2.setCell _ _).heap.size;have:=h.hb;simp [World.setCell] at *;omega
 ·exact ((h.bel.alloc (nL hB) o).grown hg (by simp;omega) (fun j hj=>by have:=(h.o2.lt j hj).1;have:=h.hB;omega)).setCell (nl _) _
def PN:List PanicEntry:=[{ v:=.iface 26 (.int .i64 1),recovered:=false }]
structure Rdr (w:World) (p:Nat) (s:ByteArray):Prop where
 c:w.cell? ⟨p,0,none⟩=some (.string s)
 f:w.frozen? ⟨p,0,none⟩=false
theorem Rdr.lt {w:World} {p:Nat} {s:ByteArray} (h:Rdr w p s):p<w.heap.size:=World.block_lt_of_cell? w _ h.c
theorem Rdr.below {w w':World} {p:Nat} {s:ByteArray} (h:Rdr w p s) (G:Below w.heap.size w w'):Rdr w' p s:=⟨(G.cell (p:=⟨p,0,none⟩) h.lt).trans h.c,(G.frozen (p:=⟨p,0,none⟩) h.lt).trans h.f⟩
theorem Rdr.set {w:World} {p:Nat} {s:ByteArray} (h:Rdr w p s) (r:ByteArray):Rdr (w.setCell ⟨p,0,none⟩ (.string r)) p r:=⟨World.cell?_setCell_same _ _ _ h.c,by rw [World.frozen?_setCell];exact h.f⟩
def On (p:Nat) (w w':World):Prop:=w.grownBy w' (some p)
theorem On.refl (p:Nat) (w:World):On p w w:=⟨rfl,rfl,rfl,Nat.le_refl _,fun _ _ _=>rfl⟩
theorem On.of {p:Nat} {w w':World} (G:Below w.heap.size w w'):On p w w':=⟨G.os,G.tape,G.output,G.size,fun k hk _=>G.block k hk⟩
theorem On.trans {p:Nat} {a b c:World} (h:On p a b) (g:On p b c):On p a c:=⟨g.os.trans h.os,g.tape.trans h.tape,g.output.trans h.output,Nat.le_trans h.size g.size,fun k hk hne=>(g.block k (Nat.lt_of_lt_of_le hk h.size) hne).trans (h.block k hk hne)⟩
theorem On.set {p:Nat} {w w':World} (h:On p w w') (v:Value):On p w (w'.setCell ⟨p,0,none⟩ v):=h.trans (Zb w' ⟨p,0,none⟩ v)
def ZE {α:Type} (r:Option (α × ByteArray)) (val:α->Value) (p:Nat) (w:World) (e:Ending) (w':World):Prop:=On p w w'/\match r with
 | none=>e=.panicked PN
 | some (x,q)=>e=.returned (val x)/\Rdr w' p q
theorem ZaV {α:Type} {r:Option (α × ByteArray)} {val:α->Value} {p:Nat} {w w':World} (hr:r=none) (h:On p w w'):ZE r val p w (.panicked PN) w':=by subst hr;exact ⟨h,rfl⟩
theorem Zbu {α:Type} {r:Option (α × ByteArray)} {val:α->Value} {p:Nat} {w w':World} {x:α} {q:ByteArray} (hr:r=some (x,q)) (h:On p w w') (h2:Rdr w' p q):ZE r val p w (.returned (val x)) w':=by subst hr;exact ⟨h,rfl,h2⟩
theorem Zeb (w:World):Calls Tryz.prog 151 #[.bool true] w fun e w'=>e=.returned (.tuple #[])/\w'=w:=by
 go_enter Tryz.func151,Tryz.ntmps151
 go_wp2_with fail
 go_end0
 exact ⟨rfl,rfl⟩
theorem ZfY (w:World):Calls Tryz.prog 151 #[.bool false] w fun e w'=>e=.panicked PN/\w'=w:=by
 unfold PN;go_enter Tryz.func151,Tryz.ntmps151
 go_wp2_with fail
 exact ⟨rfl,rfl,rfl⟩
namespace Im
theorem Zep {s:ByteArray} {n k:Nat} (h:Nm.Zl s.data.toList=some (n,k)):rNum s=some (n,s.extract k s.size):=by unfold rNum;rw [h]
theorem Zjr {s:ByteArray} (h:Nm.Zl s.data.toList=none):rNum s=none:=by unfold rNum;rw [h]
end Im
theorem Zdi (s:ByteArray) (p:Nat) (w:World) (h:Rdr w p s) (hs:s.size<=281474976710656) :
 Calls Tryz.prog 152 #[.pointer (some ⟨p,0,none⟩)] w fun e w'=>ZE (Im.rNum s) (fun n=>.int .i64 (n:Nat)) p w e w':=by
 have c:=h.c
 cases hf:Nm.Zl s.data.toList with
 | none =>
  have hQ:Hid (∀ w',On p w w'->ZE (Im.rNum s) (fun n=>.int .i64 (n:Nat)) p w (.panicked PN) w'):=fun w' h9=>ZaV (Im.Zjr hf) h9
  generalize ZE (Im.rNum s) (fun n=>.int .i64 (n:Nat)) p w=Q at *;have C1:=Zgg s w hs hf;clear hf h;go_enter Tryz.func152,Tryz.ntmps152
  go_wp2_with fail
  refine C1.mono ?_;rintro e w1 ⟨rfl,G⟩;go_wp2_with fail
  refine (ZfY _).mono ?_;rintro e w2 ⟨rfl,rfl⟩;go_wp2_with fail
  exact ⟨rfl,hQ.out _ (On.of G)⟩
 | some x =>
  obtain ⟨n,k⟩:=x;have hQ:Hid (∀ w',On p w w'->Rdr w' p (s.extract k s.size)->ZE (Im.rNum s) (fun n=>.int .i64 (n:Nat)) p w (.returned (.int .i64 (n:Nat))) w'):=fun w' h9 h8=>Zbu (Im.Zep hf) h9 h8
  generalize ZE (Im.rNum s) (fun n=>.int .i64 (n:Nat)) p w=Q at *;have C1:=Zbw s w n k hs hf;have hR:Hid (∀ w',Below w.heap.size w w'->Rdr w' p s):=fun w' h9=>h.below h9
  clear hf h;generalize s.extract k s.size=r at *;go_enter Tryz.func152,Tryz.ntmps152
  go_wp2_with fail
  refine C1.mono ?_;rintro e w1 ⟨rfl,G⟩;go_wp2_with fail
  refine (Zeb _).mono ?_;rintro e w2 ⟨rfl,rfl⟩;have R1:=hR.out _ G;have c1:=R1.c;have f1:=R1.f;go_wp2_with fail
  exact hQ.out _ ((On.of G).set _) (R1.set _)
namespace Im
theorem ZoP {m:Nat} {s:ByteArray} {n k:Nat} (h:Nm.Zl s.data.toList=some (n,k)) (h1:n<=m) (h2:k+n<=s.size):rCnt m s=some (s.extract k (k+n),s.extract (k+n) s.size):=by
 have hk:=(Nm.Zai h).2.2.1;have hz:(s.extract k s.size).size=s.size - k:=by simp
 unfold rCnt;rw [Zep h];simp only;rw [if_pos ⟨h1,by omega⟩]
 congr 2
 ·apply Nm.ZG;rw [Zdc,Zap];simp [ByteArray.data_extract,Array.toList_extract,List.extract]
 ·apply Nm.ZG;rw [Zap,Zap,Zap,List.drop_drop]
theorem ZpB {m:Nat} {s:ByteArray} {n k:Nat} (h:Nm.Zl s.data.toList=some (n,k)) (h1:m<n\/s.size<k+n):rCnt m s=none:=by
 have hk:=(Nm.Zai h).2.2.1;rw [<-Zj] at hk;have hz:(s.extract k s.size).size=s.size - k:=by simp
 unfold rCnt;rw [Zep h];simp only;rw [if_neg (by omega)]
theorem Zod {m:Nat} {s:ByteArray} (h:Nm.Zl s.data.toList=none):rCnt m s=none:=by unfold rCnt;rw [Zjr h]
end Im
theorem Zfm (s:ByteArray) (p:Nat) (w:World) (h:Rdr w p s) (hs:s.size<=281474976710656) :
 Calls Tryz.prog 117 #[.pointer (some ⟨p,0,none⟩)] w fun e w'=>ZE (Im.rCnt 512 s) Value.string p w e w':=by
 have c:=h.c
 have bad:Im.rCnt 512 s=none->(Calls Tryz.prog 153 #[.string s] w fun e w'=>e=.returned (.tuple #[.string ⟨#[]⟩,.string ⟨#[]⟩,.int .i64 1])/\Below w.heap.size w w')->Calls Tryz.prog 117 #[.pointer (some ⟨p,0,none⟩)] w fun e w'=>ZE (Im.rCnt 512 s) Value.string p w e w':=by
  intro hu C1;have hQ:Hid (∀ w',On p w w'->ZE (Im.rCnt 512 s) Value.string p w (.panicked PN) w'):=fun w' h9=>ZaV hu h9
  generalize ZE (Im.rCnt 512 s) Value.string p w=Q at *;clear hu h;go_enter Tryz.func117,Tryz.ntmps117
  go_wp2_with fail
  refine C1.mono ?_;rintro e w1 ⟨rfl,G⟩;go_wp2_with fail
  refine (ZfY _).mono ?_;rintro e w2 ⟨rfl,rfl⟩;go_wp2_with fail
  exact ⟨rfl,hQ.out _ (On.of G)⟩
 cases hf:Nm.Zl s.data.toList with
 | none=>exact bad (Im.Zod hf) (ZfG s w hs hf)
 | some x =>
  obtain ⟨n,k⟩:=x;by_cases hb:512<n\/s.size<k+n
  ·exact bad (Im.ZpB hf hb) (ZiC s w n k hs hf hb)
  ·have hu:=Im.ZoP (m:=512) hf (by omega) (by omega);have C1:=ZhG s w n k hs hf (by omega) (by omega);have hQ:Hid (∀ w',On p w w'->Rdr w' p (s.extract (k+n) s.size)->ZE (Im.rCnt 512 s) Value.string p w (.returned (.string (s.extract k (k+n)))) w'):=fun w' h9 h8=>Zbu hu h9 h8
   generalize ZE (Im.rCnt 512 s) Value.string p w=Q at *;have hR:Hid (∀ w',Below w.heap.size w w'->Rdr w' p s):=fun w' h9=>h.below h9
   clear hf h hu bad hb;generalize s.extract (k+n) s.size=r at *;generalize s.extract k (k+n)=u at *;go_enter Tryz.func117,Tryz.ntmps117
   go_wp2_with fail
   refine C1.mono ?_;rintro e w1 ⟨rfl,G⟩;go_wp2_with fail
   refine (Zeb _).mono ?_;rintro e w2 ⟨rfl,rfl⟩;have R1:=hR.out _ G;have c1:=R1.c;have f1:=R1.f;go_wp2_with fail
   exact hQ.out _ ((On.of G).set _) (R1.set _)
theorem ZcY (s:ByteArray) (p:Nat) (w:World) (h:Rdr w p s) (hs:s.size<=281474976710656) :
 Calls Tryz.prog 125 #[.pointer (some ⟨p,0,none⟩)] w fun e w'=>ZE (Im.rCnt 2147483647 s) Value.string p w e w':=by
 have C1:=Zdi s p w h hs;unfold ZE at C1
 cases hr:Im.rNum s with
 | none =>
  have hu:Im.rCnt 2147483647 s=none:=by unfold Im.rCnt;rw [hr]
  have hQ:Hid (∀ w',On p w w'->ZE (Im.rCnt 2147483647 s) Value.string p w (.panicked PN) w'):=fun w' h9=>ZaV hu h9
  generalize ZE (Im.rCnt 2147483647 s) Value.string p w=Q at *;rw [hr] at C1;simp only at C1;clear hr hu h;go_enter Tryz.func125,Tryz.ntmps125
  go_wp2_with fail
  refine C1.mono ?_;rintro e w1 ⟨G,rfl⟩;go_wp2_with fail
  exact ⟨rfl,hQ.out _ G⟩
 | some x =>
  obtain ⟨n,q⟩:=x;rw [hr] at C1;simp only at C1;have hn:=((Im.Zay s n q).1 hr).1
  have hqs:q.size<=s.size:=by
   have:=congrArg List.length ((Im.Zay s n q).1 hr).2;rw [List.length_append,<-Im.Zj,<-Im.Zj] at this;omega
  by_cases hle:n<=q.size
  ·have hu:Im.rCnt 2147483647 s=some (q.extract 0 n,q.extract n q.size):=by unfold Im.rCnt;rw [hr];exact if_pos ⟨hn,hle⟩
   have hQ:Hid (∀ w',On p w w'->Rdr w' p (q.extract n q.size)->ZE (Im.rCnt 2147483647 s) Value.string p w (.returned (.string (q.extract 0 n))) w'):=fun w' h9 h8=>Zbu hu h9 h8
   generalize ZE (Im.rCnt 2147483647 s) Value.string p w=Q at *;have d1:decide ((n:Int)<=(q.size:Int))=true:=zdT (by omega);have d1':decide (n<=q.size)=true:=zdT hle;have hni:(n:Int)<=(q.size:Int):=by omega
   clear hr hu h;go_enter Tryz.func125,Tryz.ntmps125
   go_wp2_with fail
   refine C1.mono ?_;rintro e w1 ⟨G,rfl,R1⟩;have c1:=R1.c;go_wp2_with fail
   refine (Zeb _).mono ?_;rintro e w2 ⟨rfl,rfl⟩;go_wp2_with fail
   refine (ZP _ _ (by simp;omega)).mono ?_;rintro e w3 ⟨rfl,G3⟩;have R3:=R1.below G3;have c3:=R3.c;have f3:=R3.f;go_wp2_with fail
   exact hQ.out _ ((G.trans (On.of G3)).set _) (R3.set _)
  ·have hu:Im.rCnt 2147483647 s=none:=by unfold Im.rCnt;rw [hr];exact if_neg (fun h9=>hle h9.2)
   have hQ:Hid (∀ w',On p w w'->ZE (Im.rCnt 2147483647 s) Value.string p w (.panicked PN) w'):=fun w' h9=>ZaV hu h9
   generalize ZE (Im.rCnt 2147483647 s) Value.string p w=Q at *;have d1:decide ((n:Int)<=(q.size:Int))=false:=dF (by omega);have d1':decide (n<=q.size)=false:=dF hle;clear hr hu h;go_enter Tryz.func125,Tryz.ntmps125
   go_wp2_with fail
   refine C1.mono ?_;rintro e w1 ⟨G,rfl,R1⟩;have c1:=R1.c;go_wp2_with fail
   refine (ZfY _).mono ?_;rintro e w2 ⟨rfl,rfl⟩;go_wp2_with fail
   exact ⟨rfl,hQ.out _ G⟩
def rEnd (s:ByteArray):Option (Unit × ByteArray):=if s.size=0 then some ((),s) else none
theorem ZmL (s:ByteArray) (p:Nat) (w:World) (h:Rdr w p s) :
 Calls Tryz.prog 119 #[.pointer (some ⟨p,0,none⟩)] w fun e w'=>ZE (rEnd s) (fun _=>.tuple #[]) p w e w':=by
 have c:=h.c;by_cases hz:s.size=0
 ·have hQ:Hid (∀ w',On p w w'->Rdr w' p s->ZE (rEnd s) (fun _=>.tuple #[]) p w (.returned (.tuple #[])) w'):=fun w' h9 h8=>Zbu (x:=()) (if_pos hz) h9 h8
  generalize ZE (rEnd s) (fun _=>.tuple #[]) p w=Q at *
  obtain rfl:s=⟨#[]⟩:=by
   apply Nm.ZG;rw [Im.Zj] at hz;exact lZ.1 hz
  go_enter Tryz.func119,Tryz.ntmps119
  go_wp2_with fail
  refine (Zeb _).mono ?_;rintro e w2 ⟨rfl,rfl⟩;go_wp2_with fail
  go_end0
  exact hQ.out _ (On.refl _ _) h
 ·have hQ:Hid (∀ w',On p w w'->ZE (rEnd s) (fun _=>.tuple #[]) p w (.panicked PN) w'):=fun w' h9=>ZaV (if_neg hz) h9
  generalize ZE (rEnd s) (fun _=>.tuple #[]) p w=Q at *
  have d1:s.toList.isEmpty=false:=by
   cases hl:s.toList with
   | nil=>exact absurd (by rw [Im.Zj,<-ByteArray.toList_eq,hl];rfl) hz
   | cons=>rfl
  go_enter Tryz.func119,Tryz.ntmps119
  go_wp2_with fail
  refine (ZfY _).mono ?_;rintro e w2 ⟨rfl,rfl⟩;go_wp2_with fail
  exact ⟨rfl,hQ.out _ (On.refl _ _)⟩
theorem Zbt (s:ByteArray) (w:World) :
 Calls Tryz.prog 114 #[.string s] w fun e w'=>e=.returned (.pointer (some ⟨w.heap.size,0,none⟩))/\w'=w.alloc (.cells #[.string s] 143 (0,0)):=by
 go_enter Tryz.func114,Tryz.ntmps114
 go_wp2_with fail
 go_ret
 exact ⟨rfl,rfl⟩
theorem Zlg {α:Type} {p:ByteArray->Option (α × ByteArray)} {enc:α->Im.B} {ok:α->Prop} (hp:Im.Rd p enc ok) {s r:ByteArray} {x:α} (h:p s=some (x,r)):r.size<=s.size:=by
 have:=congrArg List.length ((hp s x r).1 h).2;rw [List.length_append,<-Im.Zj,<-Im.Zj] at this;omega
theorem On.set1 {p:Nat} {w w':World} (h:On p w w') {b:Nat} (hb:w.heap.size<=b) (o:Nat) (v:Value):On p w (w'.setCell ⟨b,o,none⟩ v) :=
 ⟨h.os,h.tape,h.output,by have:=h.size;simpa [World.setCell] using this,fun k hk hne=>(zhS _ _ _ _ (by simp;omega)).trans (h.block k hk hne)⟩
theorem On.past {p:Nat} {w w1 w':World} (h:On p w w1) (g:On p w1 w'):On p w w':=h.trans g
structure FB (w:World) (b:Nat) (f:Nat->Value):Prop where
 c:∀ i,i<5->w.cell? ⟨b,i,none⟩=some (f i)
 z:∀ i,i<5->w.frozen? ⟨b,i,none⟩=false
theorem FB.lt {w:World} {b:Nat} {f:Nat->Value} (h:FB w b f):b<w.heap.size:=World.block_lt_of_cell? w _ (h.c 0 (by omega))
theorem FB.on {w w':World} {b p:Nat} {f:Nat->Value} (h:FB w b f) (g:On p w w') (hne:b ≠ p):FB w' b f:=by
 have hb:=g.block b h.lt (by simp;omega);exact ⟨fun i hi=>(cB (w:=w) (a:=⟨b,i,none⟩) hb).trans (h.c i hi),fun i hi=>(fB (w:=w) (a:=⟨b,i,none⟩) hb).trans (h.z i hi)⟩
theorem FB.set {w:World} {b:Nat} {f:Nat->Value} (h:FB w b f) (i:Nat) (hi:i<5) (v:Value):FB (w.setCell ⟨b,i,none⟩ v) b (fun j=>if j=i then v else f j):=by
 refine ⟨fun j hj=>?_,fun j hj=>by rw [World.frozen?_setCell];exact h.z j hj⟩;by_cases e:j=i
 ·subst e;rw [if_pos rfl];exact cS _ _ _ (h.c j hj)
 ·rw [if_neg e];exact (cO _ _ _ _ (by intro h9;exact e (congrArg Addr.off h9).symm)).trans (h.c j hj)
theorem FB.low {w:World} {b b':Nat} {f:Nat->Value} (h:FB w b f) (hne:b ≠ b') (o:Nat) (v:Value):FB (w.setCell ⟨b',o,none⟩ v) b f :=
 ⟨fun i hi=>(cO _ _ _ _ (by intro e;have:=congrArg Addr.block e;simp at this;omega)).trans (h.c i hi),fun i hi=>by rw [World.frozen?_setCell];exact h.z i hi⟩
theorem Rdr.low {w:World} {p b:Nat} {s:ByteArray} (h:Rdr w p s) (hne:p ≠ b) (o:Nat) (v:Value):Rdr (w.setCell ⟨b,o,none⟩ v) p s :=
 ⟨(cO _ _ _ _ (by intro e;have:=congrArg Addr.block e;simp at this;omega)).trans h.c,by rw [World.frozen?_setCell];exact h.f⟩
def fcs:List Ar.F->List Value
 | []=>[]
 | f :: fs=>[.string f.name,.int .i64 f.dict,.int .i64 f.size,.int .i64 f.sum,.string f.blk]++fcs fs
theorem Zah:∀ fs:List Ar.F,(fcs fs).length=fs.length*5
 | []=>rfl
 | f :: fs=>by rw [fcs,List.length_append,Zah fs,List.length_cons];simp;omega
theorem Zz:∀ fs gs:List Ar.F,fcs (fs++gs)=fcs fs++fcs gs
 | [],_=>rfl
 | f :: fs,gs=>by rw [List.cons_append,fcs,fcs,Zz fs gs,List.append_assoc]
structure ArOwn (lo:Nat) (w:World) (v1 v2:Value) (a:Ar.A):Prop where
 o1:w.ownsRow lo 9 1 v1 a.dicts.length (a.dicts.map Value.string)
 o2:w.ownsRow lo 46 5 v2 a.files.length (fcs a.files)
 ne:∀ j,v1.ownBlock=some j->v2.ownBlock ≠ some j
theorem box3 (w:World) (a b c:Array Value) (s t u:TypeId):(∀ i,(((w.alloc (.cells a s (0,0))).alloc (.cells b t (0,0))).alloc (.cells c u (0,0))).cell? ⟨w.heap.size,i,none⟩=a[i]?)/\(∀ i,(((w.alloc (.cells a s (0,0))).alloc (.cells b t (0,0))).alloc (.cells c u (0,0))).cell? ⟨w.heap.size+1,i,none⟩=b[i]?) ∧
 ∀ i,(((w.alloc (.cells a s (0,0))).alloc (.cells b t (0,0))).alloc (.cells c u (0,0))).cell? ⟨w.heap.size+2,i,none⟩=c[i]?:=by
 refine ⟨fun i=>?_,fun i=>?_,fun i=>?_⟩
 ·rw [World.cell?_alloc_lt _ _ _ (by simp;omega)];exact (box2 w a b s t).1 i
 ·rw [World.cell?_alloc_lt _ _ _ (by simp)];exact (box2 w a b s t).2 i
 ·have e:((w.alloc (.cells a s (0,0))).alloc (.cells b t (0,0))).heap.size=w.heap.size+2:=by simp
  rw [<-e,World.cell?_alloc_new]
theorem Ztf {xs:List ByteArray} {k:Nat} (h:k<xs.length):(xs.take (k+1)).map Value.string=(xs.take k).map Value.string++[.string (Tr.xa xs k)]:=by
 rw [List.take_succ_eq_append_getElem h,List.map_append];simp [Tr.xa,h]
theorem ZpG {fs:List Ar.F} {k:Nat} (h:k<fs.length):fcs (fs.take (k+1))=fcs (fs.take k)++[.string (Ar.fa fs k).name,.int .i64 (Ar.fa fs k).dict,.int .i64 (Ar.fa fs k).size,.int .i64 (Ar.fa fs k).sum,.string (Ar.fa fs k).blk]:=by
 rw [Ar.ZQ h,Zz];rfl
theorem one5 (a b:ByteArray) (x y z:Int):∀ u ∈ ([.string a,.int .i64 x,.int .i64 y,.int .i64 z,.string b]:List Value),u.oneCell'=true:=by
 intro u hu;simp at hu;rcases hu with rfl | rfl | rfl | rfl | rfl <;> rfl
theorem ZdR (w:World) (p q r s t:Value) (T:TypeId):∀ j u,[p,q,r,s,t][j]?=some u->(w.alloc (.cells #[p,q,r,s,t] T)).cell? ((⟨w.heap.size,0,none⟩:Addr).add j)=some u:=by
 intro j u hj;rw [ZaZ,World.cell?_alloc_mark];simpa using hj
theorem fz3 (w:World) (a b c:Array Value) (s t u:TypeId) (x o:Nat) (h1:x<w.heap.size+3) (h2:w.heap.size<=x):(((w.alloc (.cells a s (0,0))).alloc (.cells b t (0,0))).alloc (.cells c u (0,0))).frozen? ⟨x,o,none⟩=false:=by
 have e1:(w.alloc (.cells a s (0,0))).heap.size=w.heap.size+1:=by simp
 have e2:((w.alloc (.cells a s (0,0))).alloc (.cells b t (0,0))).heap.size=w.heap.size+2:=by simp
 by_cases k2:x=w.heap.size+2
 ·exact fN _ _ _ _ (by rw [e2];exact k2)
 ·rw [World.frozen?_alloc_past _ _ _ (by rw [e2];omega)];by_cases k1:x=w.heap.size+1
  ·exact fN _ _ _ _ (by rw [e1];exact k1)
  ·rw [World.frozen?_alloc_past _ _ _ (by rw [e1];omega)];exact fN _ _ _ _ (by omega)
theorem Zk {w:World} {b:Nat} {e:TypeId} {size:Nat} {v:Value} {n:Nat} {xs:List Value} (h:w.ownsRow b e size v n xs):∃ ad cap,v=.slice ad n cap/\n<=cap:=by
 rcases h.2 with ⟨h1,h2⟩ | ⟨g,cap,cur,h1,h2,h3,h4,_⟩
 ·exact ⟨none,0,by rw [h1,h2],by omega⟩
 ·exact ⟨_,cap,h1,h4⟩
theorem ZcA {w:World} {b c:Nat} {e:TypeId} {size:Nat} {v:Value} {n:Nat} {xs:List Value} (h:w.ownsRow b e size v n xs) (hc:c<=b):w.ownsRow c e size v n xs:=by
 refine ⟨h.1,?_⟩;rcases h.2 with h2 | ⟨g,cap,cur,h1,h2,h3⟩
 ·exact .inl h2
 ·exact .inr ⟨g,cap,cur,h1,by omega,h3⟩
theorem Zbk (ad af:Option Addr) (cd cf:Nat) (a:Ar.A) (w:World) (h:ArV w ad af a) (hs:SaneA a) (h4:a.dicts.length<=4) (h12:a.files.length<=12) :
 Calls Tryz.prog 53 #[av ad cd af cf a] w fun e w'=>∃ v1 v2,e=.returned (.agg #[v1,v2])/\ArOwn w.heap.size w' v1 v2 a/\Below w.heap.size w w':=by
 obtain ⟨i0,hi,hz0,hz1,hz2⟩:=info_parts (P:=Tryz.prog) (e:=9) (z:=.string ⟨#[]⟩) (size:=1) (bytes:=16) (by kernel_rfl);obtain ⟨j0,gi,gz0,gz1,gz2⟩:=info_parts (P:=Tryz.prog) (e:=46) (z:=.agg #[.string ⟨#[]⟩,.int .i64 0,.int .i64 0,.int .i64 0,.string ⟨#[]⟩]) (size:=5) (bytes:=56) (by kernel_rfl);have HFs:Hid (∀ k,k<a.files.length->fcs (a.files.take (k+1))=fcs (a.files.take k)++[.string (Ar.fa a.files k).name,.int .i64 (Ar.fa a.files k).dict,.int .i64 (Ar.fa a.files k).size,.int .i64 (Ar.fa a.files k).sum,.string (Ar.fa a.files k).blk]):=fun k hk=>ZpG hk
 have HX:Hid (∀ w',Below w.heap.size w w'->∀ k,k<a.dicts.length->∃ b off,ad=some ⟨b,off,none⟩/\b<w'.heap.size/\w'.cell? ⟨b,off+k,none⟩=some (.string (Tr.xa a.dicts k))):=fun w' hb k hk=>(h.ds.below hb).at hk
 have HFl:Hid (∀ w',Below w.heap.size w w'->∀ k,k<a.files.length->∃ b off,af=some ⟨b,off,none⟩/\b<w'.heap.size/\FlC w' b (off+k*5) (Ar.fa a.files k)):=fun w' h9 k hk=>(h.fs.below h9).at hk
 have HZ:Hid (∀ k,(Tr.xa a.dicts k).size<=281474976710656/\(Ar.fa a.files k).name.size<=281474976710656/\(Ar.fa a.files k).blk.size<=281474976710656):=fun k=>⟨nt (hs.ds k) (by decide),nt (hs.nm k) (by decide),nt (hs.bk k) (by decide)⟩
 have HE:Hid (∀ v1 v2 w',w'.ownsRow (w.heap.size+3) 9 1 v1 a.dicts.length (a.dicts.map Value.string)->w'.ownsRow (w.heap.size+3) 46 5 v2 a.files.length (fcs a.files)->(∀ j,v1.ownBlock=some j->v2.ownBlock ≠ some j)->ArOwn w.heap.size w' v1 v2 a):=fun v1 v2 w' h1 h2 h3=>⟨ZcA h1 (by omega),ZcA h2 (by omega),h3⟩
 have HDs:Hid (∀ k,k<a.dicts.length->(a.dicts.take (k+1)).map Value.string=(a.dicts.take k).map Value.string++[.string (Tr.xa a.dicts k)]):=fun k hk=>Ztf hk
 clear h hs;unfold av
 obtain ⟨D,hD⟩:∃ D,a.dicts.length=D:=⟨_,rfl⟩
 obtain ⟨N,hN⟩:∃ N,a.files.length=N:=⟨_,rfl⟩
 simp only [hD,hN] at HX HFl HE HDs HFs;rw [hD] at h4 |-
 rw [hN] at h12 |-
 have HDD:Hid (a.dicts.length=D):=hD;have HNN:Hid (a.files.length=N):=hN;clear hD hN;have hD':(D:Int)<=4:=by omega
 have hN':(N:Int)<=12:=by omega
 go_enter Tryz.func53,Tryz.ntmps53
 go_wp2_with fail
 obtain ⟨k1,k2,k3⟩:=box3 w #[.slice ad D cd,.slice af N cf] #[.slice none 0 0,.slice none 0 0] #[.slice none 0 0,.slice none 0 0] 25 25 25;have B0:Below w.heap.size w (((w.alloc (.cells #[.slice ad D cd,.slice af N cf] 25 (0,0))).alloc (.cells #[.slice none 0 0,.slice none 0 0] 25 (0,0))).alloc (.cells #[.slice none 0 0,.slice none 0 0] 25 (0,0))):=(((bR _ _).alloc (nl _) _).alloc (by simp) _).alloc (by simp;omega) _;have hsz:(((w.alloc (.cells #[.slice ad D cd,.slice af N cf] 25 (0,0))).alloc (.cells #[.slice none 0 0,.slice none 0 0] 25 (0,0))).alloc (.cells #[.slice none 0 0,.slice none 0 0] 25 (0,0))).heap.size=w.heap.size+3:=by simp
 have fz:∀ b o,b<w.heap.size+3->w.heap.size<=b->(((w.alloc (.cells #[.slice ad D cd,.slice af N cf] 25 (0,0))).alloc (.cells #[.slice none 0 0,.slice none 0 0] 25 (0,0))).alloc (.cells #[.slice none 0 0,.slice none 0 0] 25 (0,0))).frozen? ⟨b,o,none⟩=false:=fun b o h1 h2=>fz3 w _ _ _ _ _ _ b o h1 h2
 generalize (((w.alloc (.cells #[.slice ad D cd,.slice af N cf] 25 (0,0))).alloc (.cells #[.slice none 0 0,.slice none 0 0] 25 (0,0))).alloc (.cells #[.slice none 0 0,.slice none 0 0] 25 (0,0)))=w3 at *;have a0:w3.cell? ⟨w.heap.size,0,none⟩=some (.slice ad D cd):=k1 0;have a1:w3.cell? ⟨w.heap.size,1,none⟩=some (.slice af N cf):=k1 1;have r0:w3.cell? ⟨w.heap.size+1,0,none⟩=some (.slice none 0 0):=k2 0;have r1:w3.cell? ⟨w.heap.size+1,1,none⟩=some (.slice none 0 0):=k2 1
 have S0:ClS w3 w3 (w.heap.size+2) (w.heap.size+3) (.slice none 0 0) (.slice none 0 0) 0 0 [] [] :=
  ⟨k3 0,k3 1,fz _ _ (by omega) (by omega),fz _ _ (by omega) (by omega),⟨rfl,.inl ⟨rfl,rfl⟩⟩,⟨rfl,.inl ⟨rfl,rfl⟩⟩,fun j hj=>by simp [Value.ownBlock] at hj,by omega,by omega,bR _ _⟩
 have zr:=fz (w.heap.size+1) 0 (by omega) (by omega);have zr1:=fz (w.heap.size+1) 1 (by omega) (by omega);have hszH:Hid (w3.heap.size=w.heap.size+3):=hsz;have hs1:w.heap.size<w3.heap.size:=by omega
 have hs2:w.heap.size+1<w3.heap.size:=by omega
 have hs3:w.heap.size+2<w3.heap.size:=by omega
 clear k1 k2 k3 fz hsz;go_loopw [11] (fun i wr=>∃ (k:Nat) (v:Value),k<=D/\i=.int .i64 k/\ClS w3 wr (w.heap.size+2) (w.heap.size+3) v (.slice none 0 0) k 0 ((a.dicts.take k).map Value.string) []) (fun i _=>D - (intOf i).toNat)
 case atStart=>exact ⟨0,.slice none 0 0,by omega,rfl,S0⟩
 case round =>
  clear S0;obtain ⟨k,v,hk2,rfl,S1⟩:=hrel;have B1:Below w.heap.size w wr:=B0.trans (S1.bel.mono (by omega));have hzr:w.heap.size+3<=wr.heap.size:=S1.hb;have a1':=(S1.bel.cell (p:=⟨w.heap.size,1,none⟩) (by show w.heap.size<_;omega)).trans a1;by_cases hlt:k<D
  ·have d1:decide ((k:Int)<(D:Int))=true:=by simp;omega
   have d1':decide (k<D)=true:=by simp;omega
   have hki:(k:Int)<(D:Int):=by omega
   obtain ⟨b,off,rfl,hbl,hc⟩:=HX.out wr B1 k hlt;have xz:=(HZ.out k).1;have HS:=HDs.out k hlt;generalize Tr.xa a.dicts k=X at *;have c0:=S1.c0;have f0:=S1.f0;go_wp2_with fail
   go_region_law (first
    | (refine zsL _ rfl _ _ 22 rfl (w.heap.size+3) 9 i0 (.string ⟨#[]⟩) 1 16 U22 hi hz0 hz1 hz2 rfl (by decide) v _ _ rfl (S2.o1.alloc _) ⟨w2.heap.size,0,none⟩ 1 1 [.string X] rfl rfl (cell_one_new _ _ _) (by simp [Value.oneCell']) (by decide) (by unfold maxLen;omega) (by omega) (by simp;omega) _ rfl ?_;intro g cp w5 hown5 hgrow5 hat5 hlt5;obtain ⟨⟨q1,q2⟩,S3⟩:=S2.put1 hgrow5 hown5 hat5;clear hgrow5 hown5 hat5 hlt5)
    | (go_simp;go_at_call 69;refine (ZP _ _ xz).mono ?_;rintro e w2 ⟨rfl,G2⟩;have S2:=S1.below (Below.trans ((bR _ _).drew) G2);have c2:=S2.c0;have c3:∀ o,(w2.alloc o).cell? ⟨w.heap.size+2,0,none⟩=some v:=(fun o=>(cA _ _ _ (cL w2 _ c2)).trans c2);have hb2:=S2.hb))
   all_goals
    go_wp2_with fail
    go_roundw
    case rel=>exact ⟨k+1,_,by omega,by go_num,by rw [HS];exact S3⟩
    case measure=>simp [intOf];omega
  ·obtain rfl:k=D:=by omega
   have d1:decide ((k:Int)<(k:Int))=false:=by simp
   have HTD:Hid (a.dicts.take k=a.dicts):=by show _=_;rw [<-HDD.out,List.take_length]
   rw [HTD.out] at S1;have S2:ClS w3 wr (w.heap.size+2) (w.heap.size+3) v (.slice none 0 0) k 0 (a.dicts.map Value.string) (fcs (a.files.take 0)):=S1;clear S1 B1 hzr;go_wp2_with fail
   clear a1';go_loopw [26] (fun i wr=>∃ (m:Nat) (v2:Value),m<=N/\i=.int .i64 m/\ClS w3 wr (w.heap.size+2) (w.heap.size+3) v v2 k m (a.dicts.map Value.string) (fcs (a.files.take m))) (fun i _=>N - (intOf i).toNat)
   case atStart=>exact ⟨0,.slice none 0 0,by omega,rfl,S2⟩
   case round =>
    clear S2;obtain ⟨m,v2,hm2,rfl,S1⟩:=hrel;have B1:Below w.heap.size w wr:=B0.trans (S1.bel.mono (by omega));have hzr:w.heap.size+3<=wr.heap.size:=S1.hb;by_cases hlt:m<N
    ·have d2:decide ((m:Int)<(N:Int))=true:=by simp;omega
     have d2':decide (m<N)=true:=by simp;omega
     have hmi:(m:Int)<(N:Int):=by omega
     obtain ⟨b,off,rfl,hbl,hc⟩:=HFl.out wr B1 m hlt;obtain ⟨c0,c1,c2,c3,c4⟩:=hc;have xz:=(HZ.out m).2.1;have xz4:=(HZ.out m).2.2;have HS:=HFs.out m hlt;generalize (Ar.fa a.files m).name=f0 at *;generalize (Ar.fa a.files m).dict=f1 at *;generalize (Ar.fa a.files m).size=f2 at *;generalize (Ar.fa a.files m).sum=f3 at *;generalize (Ar.fa a.files m).blk=f4 at *;have C0:=fun w=>ZP f0 w xz
     have C4:=fun w=>ZP f4 w xz4
     go_wp2_with fail
     have S2:=S1.below ((bR _ _).alloc (nl _) (.cells #[.string f0,.int .i64 f1,.int .i64 f2,.int .i64 f3,.string f4] 46 (0,0)));have hF:=fun i=>cN wr #[.string f0,.int .i64 f1,.int .i64 f2,.int .i64 f3,.string f4] 46 i
     have hFz:=fun i=>fN (w:=wr) #[.string f0,.int .i64 f1,.int .i64 f2,.int .i64 f3,.string f4] 46 _ i rfl
     have hFs:wr.heap.size<(wr.alloc (.cells #[.string f0,.int .i64 f1,.int .i64 f2,.int .i64 f3,.string f4] 46 (0,0))).heap.size:=by simp
     generalize (wr.alloc (.cells #[.string f0,.int .i64 f1,.int .i64 f2,.int .i64 f3,.string f4] 46 (0,0)))=wF at *;generalize wr.heap.size=Fb at *
     have HSS:Hid (∀ w',Below wF.heap.size wF w'->Below wF.heap.size wF w'/\w'.cell? ⟨Fb,0,none⟩=some (.string f0)/\w'.cell? ⟨Fb,4,none⟩=some (.string f4)/\w'.frozen? ⟨Fb,0,none⟩=false/\w'.frozen? ⟨Fb,4,none⟩=false):=fun w' h9 =>
      ⟨h9,(h9.cell (p:=⟨Fb,0,none⟩) hFs).trans (hF 0),(h9.cell (p:=⟨Fb,4,none⟩) hFs).trans (hF 4),(h9.frozen (p:=⟨Fb,0,none⟩) hFs).trans (hFz 0),(h9.frozen (p:=⟨Fb,4,none⟩) hFs).trans (hFz 4)⟩
     have HW:Hid (∀ w',Below wF.heap.size wF w'->w'.setCell ⟨Fb,0,none⟩ (.string f0)=w'/\w'.setCell ⟨Fb,4,none⟩ (.string f4)=w'):=fun w' h9 =>
      ⟨ZR (HSS.out w' h9).2.1,ZR (HSS.out w' h9).2.2.1⟩
     have HF:Hid (∀ w',Below wF.heap.size wF w'->∀ i,w'.cell? ⟨Fb,i,none⟩=(#[.string f0,.int .i64 f1,.int .i64 f2,.int .i64 f3,.string f4]:Array Value)[i]?):=fun w' h9 i=>(h9.cell (p:=⟨Fb,i,none⟩) hFs).trans (hF i)
     clear hF hFz c0 c1 c2 c3 c4 B1 S1 hbl;go_region_held3 (fun w'=>Below wF.heap.size wF w'/\w'.cell? ⟨Fb,0,none⟩=some (.string f0)/\w'.cell? ⟨Fb,4,none⟩=some (.string f4)/\w'.frozen? ⟨Fb,0,none⟩=false/\w'.frozen? ⟨Fb,4,none⟩=false)
      (first | (exact HSS.out _ ((bR _ _).drew)) | (exact HSS.out _ (bch (And.left (by assumption)) G6 (nl _))) | (exact HSS.out _ (bch (And.left (by assumption)) G5 (nl _))) | (rw [(HW.out _ (And.left (by assumption))).1];assumption) | (rw [(HW.out _ (And.left (by assumption))).2];assumption))
      (first
       | (go_at_call 69;refine (C0 _).mono ?_;rintro e w5 ⟨rfl,G5⟩)
       | (go_at_call 69;refine (C4 _).mono ?_;rintro e w6 ⟨rfl,G6⟩))
     have G56:Below wF.heap.size wF w6:=bch (bch ((bR _ _).drew) G5 (nl _)) G6 (nl _);rw [(HW.out _ G56).1,(HW.out _ G56).2];have S3:=S2.below G56;have hF:=HF.out w6 G56;have b0:w6.cell? ⟨Fb,0,none⟩=some (.string f0):=hF 0;have b1:w6.cell? ⟨Fb,1,none⟩=some (.int .i64 f1):=hF 1;have b2:w6.cell? ⟨Fb,2,none⟩=some (.int .i64 f2):=hF 2;have b3:w6.cell? ⟨Fb,3,none⟩=some (.int .i64 f3):=hF 3;have b4:w6.cell? ⟨Fb,4,none⟩=some (.string f4):=hF 4;have c1:=S3.c1;have hb3:=S3.hb;clear HSS HW HF G5 G6 G56 S2 C0 C4 hF
     go_wp2_with (first
      | (at_builtin;refine zwL _ rfl _ _ 23 rfl (w.heap.size+3) 46 j0 (.agg #[.string ⟨#[]⟩,.int .i64 0,.int .i64 0,.int .i64 0,.string ⟨#[]⟩]) 5 56 U23 gi gz0 gz1 gz2 rfl (by decide) v2 _ _ rfl (S3.o2.alloc _) ⟨w6.heap.size,0,none⟩ 1 1 [.string f0,.int .i64 f1,.int .i64 f2,.int .i64 f3,.string f4] rfl rfl (ZdR _ _ _ _ _ _ _) (one5 _ _ _ _ _) (by decide) (by unfold maxLen;omega) (by omega) (by simp;omega) _ rfl ?_;intro g cp w7 hown7 hgrow7 hat7 hlt7;obtain ⟨⟨q1,q2⟩,S4⟩:=S3.put2 hgrow7 hown7 hat7;clear hgrow7 hown7 hat7 hlt7)
      | fail)
     go_roundw
     case rel=>exact ⟨m+1,_,by omega,by go_num,by rw [HS];exact S4⟩
     case measure=>simp [intOf];omega
    ·obtain rfl:m=N:=by omega
     have d2:decide ((m:Int)<(m:Int))=false:=by simp
     have HTN:Hid (a.files.take m=a.files):=by show _=_;rw [<-HNN.out,List.take_length]
     rw [HTN.out] at S1;have r0':=(S1.bel.cell (p:=⟨w.heap.size+1,0,none⟩) (by show w.heap.size+1<_;omega)).trans r0;have r1':=(S1.bel.cell (p:=⟨w.heap.size+1,1,none⟩) (by show w.heap.size+1<_;omega)).trans r1;have z0':=(S1.bel.frozen (p:=⟨w.heap.size+1,0,none⟩) (by show w.heap.size+1<_;omega)).trans zr;have z1':=(S1.bel.frozen (p:=⟨w.heap.size+1,1,none⟩) (by show w.heap.size+1<_;omega)).trans zr1;have c0:=S1.c0;have c1:=S1.c1;have g1:=Zb wr ⟨w.heap.size+1,0,none⟩ v;have g2:=Zb (wr.setCell ⟨w.heap.size+1,0,none⟩ v) ⟨w.heap.size+1,1,none⟩ v2
     have S5:ArOwn w.heap.size ((wr.setCell ⟨w.heap.size+1,0,none⟩ v).setCell ⟨w.heap.size+1,1,none⟩ v2) v v2 a :=
      HE.out v v2 _ ((S1.o1.kept g1 (.inr (Zat S1.o1 (by show w.heap.size+1<_;omega)).symm)).kept g2 (.inr (Zat S1.o1 (by show w.heap.size+1<_;omega)).symm))
       ((S1.o2.kept g1 (.inr (Zat S1.o2 (by show w.heap.size+1<_;omega)).symm)).kept g2 (.inr (Zat S1.o2 (by show w.heap.size+1<_;omega)).symm)) S1.ne
     have u0:((wr.setCell ⟨w.heap.size+1,0,none⟩ v).setCell ⟨w.heap.size+1,1,none⟩ v2).cell? ⟨w.heap.size+1,0,none⟩=some v:=(cO _ _ _ _ (by intro e;have:=congrArg Addr.off e;simp at this)).trans (cS _ _ _ r0');have u1:((wr.setCell ⟨w.heap.size+1,0,none⟩ v).setCell ⟨w.heap.size+1,1,none⟩ v2).cell? ⟨w.heap.size+1,1,none⟩=some v2:=cS _ _ _ ((cO _ _ _ _ (by intro e;have:=congrArg Addr.off e;simp at this)).trans r1');have B4:Below w.heap.size w ((wr.setCell ⟨w.heap.size+1,0,none⟩ v).setCell ⟨w.heap.size+1,1,none⟩ v2):=(B1.setCell (by show _<=w.heap.size+1;omega) _).setCell (by show _<=w.heap.size+1;omega) _;obtain ⟨p1,q1,rfl,_⟩:=Zk S1.o1;obtain ⟨p2,q2,rfl,_⟩:=Zk S1.o2;have hlt1:w.heap.size+1<wr.heap.size:=by omega
     clear HE HTN HFs HFl HX HDs HZ g1 g2;go_wp2_with fail
     generalize ((wr.setCell ⟨w.heap.size+1,0,none⟩ (.slice p1 k q1)).setCell ⟨w.heap.size+1,1,none⟩ (.slice p2 m q2))=wz at *;exact bodyPost_ret (v:=.agg #[.slice p1 k q1,.slice p2 m q2]) (by simp [results,Tryz.results53,go_sem,u0,u1]) rfl ⟨_,_,rfl,S5,B4⟩
theorem ZaH (w:World) (g i j:Nat) (v:Value) (h:i ≠ j):(w.setCell ⟨g,i,none⟩ v).cell? ⟨g,j,none⟩=w.cell? ⟨g,j,none⟩:=World.cell?_setCell_other _ _ _ _ (by intro e;have:=congrArg Addr.off e;exact h this)
theorem ZiO {w:World} {g i:Nat} {v u:Value} (h:w.cell? ⟨g,i,none⟩=some u):(w.setCell ⟨g,i,none⟩ v).cell? ⟨g,i,none⟩=some v:=World.cell?_setCell_same _ _ _ h
def w5s (w:World) (g o:Nat) (v0 v1 v2 v3 v4:Value):World:=((((w.setCell ⟨g,o,none⟩ v0).setCell ⟨g,o+1,none⟩ v1).setCell ⟨g,o+2,none⟩ v2).setCell ⟨g,o+3,none⟩ v3).setCell ⟨g,o+4,none⟩ v4
theorem set5 {w:World} {g o:Nat} {u0 u1 u2 u3 u4:Value} (v0 v1 v2 v3 v4:Value) (h0:w.cell? ⟨g,o,none⟩=some u0) (h1:w.cell? ⟨g,o+1,none⟩=some u1) (h2:w.cell? ⟨g,o+2,none⟩=some u2) (h3:w.cell? ⟨g,o+3,none⟩=some u3) (h4:w.cell? ⟨g,o+4,none⟩=some u4) :
 (w5s w g o v0 v1 v2 v3 v4).cell? ⟨g,o,none⟩=some v0/\(w5s w g o v0 v1 v2 v3 v4).cell? ⟨g,o+1,none⟩=some v1/\(w5s w g o v0 v1 v2 v3 v4).cell? ⟨g,o+2,none⟩=some v2/\(w5s w g o v0 v1 v2 v3 v4).cell? ⟨g,o+3,none⟩=some v3/\(w5s w g o v0 v1 v2 v3 v4).cell? ⟨g,o+4,none⟩=some v4:=by
 unfold w5s;refine ⟨?_,?_,?_,?_,?_⟩
 ·rw [ZaH _ _ _ _ _ (by omega),ZaH _ _ _ _ _ (by omega),ZaH _ _ _ _ _ (by omega),ZaH _ _ _ _ _ (by omega)];exact ZiO h0
 ·rw [ZaH _ _ _ _ _ (by omega),ZaH _ _ _ _ _ (by omega),ZaH _ _ _ _ _ (by omega)];exact ZiO ((ZaH _ _ _ _ _ (by omega)).trans h1)
 ·rw [ZaH _ _ _ _ _ (by omega),ZaH _ _ _ _ _ (by omega)];exact ZiO ((ZaH _ _ _ _ _ (by omega)).trans ((ZaH _ _ _ _ _ (by omega)).trans h2))
 ·rw [ZaH _ _ _ _ _ (by omega)];exact ZiO ((ZaH _ _ _ _ _ (by omega)).trans ((ZaH _ _ _ _ _ (by omega)).trans ((ZaH _ _ _ _ _ (by omega)).trans h3)))
 ·exact ZiO ((ZaH _ _ _ _ _ (by omega)).trans ((ZaH _ _ _ _ _ (by omega)).trans ((ZaH _ _ _ _ _ (by omega)).trans ((ZaH _ _ _ _ _ (by omega)).trans h4))))
theorem ZfJ {B:Nat} {a w:World} (h:Below B a w) (g o:Nat) (v0 v1 v2 v3 v4:Value) (hg:B<=g):Below B a (w5s w g o v0 v1 v2 v3 v4):=((((h.setCell hg _).setCell hg _).setCell hg _).setCell hg _).setCell hg _
theorem ZbK (ad af:Option Addr) (cd cf:Nat) (a:Ar.A) (name text:ByteArray) (dict:Int) (w:World) (hx:TxSl w ad a.dicts) (hl:a.dicts.length<=4) (hd:(Ar.dct a.dicts dict).size<=256) (hh:Ar.has a.dicts dict=true) (ht:text.size<=512) (hn:name.size<=140737488355328) :
 Calls Tryz.prog 52 #[av ad cd af cf a,.string name,.string text,.int .i64 dict] w fun e w'=>e=.returned (.tuple #[fv (Ar.pk a.dicts name text dict),.int .i64 0])/\Below w.heap.size w w':=by
 have hb:=fun o p=>((bR w.heap.size w).alloc (nl _) o).alloc (by simp) p
 have c1:=fun o p=>Zcb ad af cd cf a dict ((w.alloc o).alloc p) (hx.below (hb o p)) (by omega) hh
 have hp:=Bk.ZiF hd ht;have c2:=fun w=>Zpm (Ar.dct a.dicts dict) text w (by omega) (by omega)
 have c3:=fun w=>ZP name w (by omega)
 have c4:=fun w=>Zmt text w (by omega)
 have e1:fv (Ar.pk a.dicts name text dict)=.agg #[.string name,.int .i64 dict,.int .i64 (text.size:Int),.int .i64 (ZaF text text.size:Nat),.string (Bk.pak (Ar.dct a.dicts dict) text).1]:=rfl;rw [e1];rw [hp.1] at c2;unfold av at c1 |-
 have hbk:(Bk.pak (Ar.dct a.dicts dict) text).1.size<=513:=by have:=hp.2.2;omega
 generalize (Bk.pak (Ar.dct a.dicts dict) text).1=K at *;generalize Ar.dct a.dicts dict=X at *;generalize ZaF text text.size=M at *;generalize a.dicts.length=D at *;generalize a.files.length=F at *;have ht':(text.size:Int)<=512:=by omega
 clear hx hp e1 hh hd;go_enter Tryz.func52,Tryz.ntmps52
 go_wp2_with fail
 refine (c1 _ _).mono ?_;rintro e w1 ⟨rfl,G⟩;have hz:w.heap.size+1<w1.heap.size:=by have:=G.size;simp at this;omega
 have r:=fun i=>(G.cell (p:=⟨w.heap.size+1,i,none⟩) (by simp)).trans ((box2 w #[.slice ad D cd,.slice af F cf] #[.string ⟨#[]⟩,.int .i64 0,.int .i64 0,.int .i64 0,.string ⟨#[]⟩] 25 46).2 i)
 have fz:∀ i,w1.frozen? ⟨w.heap.size+1,i,none⟩=false:=fun i=>(G.frozen (p:=⟨w.heap.size+1,i,none⟩) (by simp)).trans (fN _ _ _ _ (by simp))
 have B1:=bch (hb _ _) G (nl _);clear G c1 hb;go_wp2_with fail
 refine (c2 _).mono ?_;rintro e w2 ⟨rfl,G2⟩;have B2:=bch B1 G2 (nl _);have hz2:w.heap.size+1<w2.heap.size:=by have:=G2.size;omega
 have r2:=fun i=>(G2.cell (p:=⟨w.heap.size+1,i,none⟩) hz).trans (r i)
 have fz2:=fun i=>(G2.frozen (p:=⟨w.heap.size+1,i,none⟩) hz).trans (fz i)
 clear G2 r fz B1 c2;go_wp2_with fail
 refine (c3 _).mono ?_;rintro e w3 ⟨rfl,G3⟩;have B3:=bch B2 G3 (nl _);have r3:=fun i=>(G3.cell (p:=⟨w.heap.size+1,i,none⟩) hz2).trans (r2 i)
 have fz3:=fun i=>(G3.frozen (p:=⟨w.heap.size+1,i,none⟩) hz2).trans (fz2 i)
 have hz3:w.heap.size+1<w3.heap.size:=by have:=G3.size;omega
 clear G3 r2 fz2 B2 c3;go_wp2_with fail
 refine (c4 _).mono ?_;rintro e w4 ⟨rfl,rfl⟩;have r0:w4.cell? ⟨w.heap.size+1,0,none⟩=some (.string ⟨#[]⟩):=r3 0;have r1:w4.cell? ⟨w.heap.size+1,1,none⟩=some (.int .i64 0):=r3 1;have r2:w4.cell? ⟨w.heap.size+1,2,none⟩=some (.int .i64 0):=r3 2;have r4:w4.cell? ⟨w.heap.size+1,3,none⟩=some (.int .i64 0):=r3 3;have r5:w4.cell? ⟨w.heap.size+1,4,none⟩=some (.string ⟨#[]⟩):=r3 4;have y0:=fz3 0;have y1:=fz3 1;have y2:=fz3 2;have y3:=fz3 3;have y4:=fz3 4;clear r3 fz3 c4;go_wp2_with fail
 obtain ⟨k0,k1,k2,k3,k4⟩:=set5 (.string name) (.int .i64 dict) (.int .i64 (text.size:Int)) (.int .i64 (M:Int)) (.string K) r0 r1 r2 r4 r5;have B4:=ZfJ B3 (w.heap.size+1) 0 (.string name) (.int .i64 dict) (.int .i64 (text.size:Int)) (.int .i64 (M:Int)) (.string K) (by omega);unfold w5s at k0 k1 k2 k3 k4 B4;simp only [Nat.zero_add] at k0 k1 k2 k3 k4 B4;generalize (((((w4.setCell ⟨w.heap.size+1,0,none⟩ (.string name)).setCell ⟨w.heap.size+1,1,none⟩ (.int .i64 dict)).setCell ⟨w.heap.size+1,2,none⟩ (.int .i64 (text.size:Int))).setCell ⟨w.heap.size+1,3,none⟩ (.int .i64 (M:Int))).setCell ⟨w.heap.size+1,4,none⟩ (.string K))=wz at *;exact bodyPost_ret (v:=.tuple #[.agg #[.string name,.int .i64 dict,.int .i64 (text.size:Int),.int .i64 (M:Int),.string K],.int .i64 0]) (by simp [results,Tryz.results52,go_sem,k0,k1,k2,k3,k4]) rfl ⟨rfl,B4⟩
theorem ZaN (w:World) (dT sT ty elem:TypeId) (g o dLen dCap:Nat) (a:Addr) (sLen sCap:Nat) (cur:Array Value) (t:TypeId) (cs:List Value)
 (hu:Tryz.prog.underlying dT=some (.slice elem)) (hs:(Tryz.prog.info? elem).map (·.size)=some 5)
 (hg:w.heap[g]?=some (.cells cur t (0,0))) (hn:cs.length=Nat.min sLen dLen*5)
 (hsrc:∀ j v,cs[j]?=some v->w.cell? (a.add j)=some v) (hfit:o+cs.length<=cur.size) (h1:∀ v ∈ cs,v.oneCell'=true) :
 (Builtin.copy_ #[dT,sT] ty #[.slice (some ⟨g,o,none⟩) dLen dCap,.slice (some a) sLen sCap]).run Tryz.prog w =
  .ok (goInt (Nat.min sLen dLen)) (w.setRow g (cur.toList.take o++cs++cur.toList.drop (o+cs.length)).toArray):=by
 have hl:=run_loadCells_list (P:=Tryz.prog) w a cs hsrc;have hst:=run_storeCells_at Tryz.prog g o t cs 0 cur w hg (by simpa using hfit) h1
 cases hq:Tryz.prog.info? elem with
 | none=>simp [hq] at hs
 | some i =>
  have hi:i.size=5:=by simpa [hq] using hs
  simp [Builtin.copy_,run_underlying hu,Builtin.lenOf,Builtin.firstCells,sizeOf,typeInfo,hq,hi,<-hn,hl,hst]
theorem ZeY:∀ fs:List Ar.F,∀ v ∈ fcs fs,v.oneCell'=true
 | [],v,h=>by cases h
 | f :: fs,v,h=>by
  rw [fcs,List.mem_append] at h;rcases h with h | h
  ·exact one5 _ _ _ _ _ v h
  ·exact ZeY fs v h
theorem Zeg:∀ (fs:List Ar.F) (i:Nat),fcs (fs.take i)=(fcs fs).take (i*5)
 | [],i=>by simp [fcs]
 | f :: fs,0=>by simp [fcs]
 | f :: fs,i+1=>by
  rw [List.take_succ_cons,fcs,fcs,Zeg fs i,show (i+1)*5=[Value.string f.name,.int .i64 f.dict,.int .i64 f.size,.int .i64 f.sum,.string f.blk].length+i*5 by simp;omega,List.take_length_add_append]
theorem ZdZ:∀ (fs:List Ar.F) (i:Nat),fcs (fs.drop i)=(fcs fs).drop (i*5)
 | [],i=>by simp [fcs]
 | f :: fs,0=>by simp [fcs]
 | f :: fs,i+1=>by
  rw [List.drop_succ_cons,fcs,ZdZ fs i,show (i+1)*5=[Value.string f.name,.int .i64 f.dict,.int .i64 f.size,.int .i64 f.sum,.string f.blk].length+i*5 by simp;omega,List.drop_length_add_append]
theorem ZkO {l cs nw:List Value} {m i:Nat} (h1:l.take m=cs) (h2:m+5<=l.length) (h3:i<=m) (h4:nw.length=5) :
 let l1:=l.take (i+5)++cs.drop i++l.drop (i+5+(cs.drop i).length)
 (l1.take i++nw++l1.drop (i+nw.length)).length=l.length/\(l1.take i++nw++l1.drop (i+nw.length)).take (m+5)=cs.take i++nw++cs.drop i:=by
 intro l1;have hc:cs.length=m:=by rw [<-h1,List.length_take];omega
 have e1:l1.take i=cs.take i:=by
  rw [show l1=l.take (i+5)++(cs.drop i++l.drop (i+5+(cs.drop i).length)) from List.append_assoc ..];rw [List.take_append_of_le_length (by rw [List.length_take];omega),List.take_take,<-h1,List.take_take]
  congr 1
  omega
 have e2:l1.drop (i+nw.length)=cs.drop i++l.drop (m+5):=by
  rw [show l1=l.take (i+5)++(cs.drop i++l.drop (i+5+(cs.drop i).length)) from List.append_assoc ..];rw [h4,List.drop_append_of_le_length (by rw [List.length_take];omega),List.drop_of_length_le (by rw [List.length_take];omega),List.nil_append,List.length_drop,hc,show i+5+(m - i)=m+5 by omega]
 rw [e1,e2];constructor
 ·simp only [List.length_append,List.length_take,List.length_drop];omega
 ·rw [<-List.append_assoc,List.take_append_of_le_length (by simp only [List.length_append,List.length_take,List.length_drop];omega),List.take_of_length_le (by simp only [List.length_append,List.length_take,List.length_drop];omega)]
theorem ZlJ {cs nw z:List Value} {m i:Nat} (hc:cs.length=m) (h2:m+5<=(cs.take i++z).length) (h3:i<=m) (h4:nw.length=5) :
 let l:=cs.take i++z
 let l1:=l.take i++nw++l.drop (i+nw.length)
 (l1.take (i+5)++cs.drop i++l1.drop (i+5+(cs.drop i).length)).length=l.length/\(l1.take (i+5)++cs.drop i++l1.drop (i+5+(cs.drop i).length)).take (m+5)=cs.take i++nw++cs.drop i:=by
 intro l l1;have hi:(cs.take i).length=i:=by rw [List.length_take];omega
 have e0:l.take i=cs.take i:=by
  show (cs.take i++z).take i=_;rw [List.take_append_of_le_length (by omega),List.take_of_length_le (by omega)]
 have e1:l1.take (i+5)=cs.take i++nw:=by
  show (l.take i++nw++l.drop (i+nw.length)).take (i+5)=_;rw [e0,List.take_append_of_le_length (by simp only [List.length_append];omega),List.take_of_length_le (by simp only [List.length_append];omega)]
 have el:l1.length=l.length:=by
  show (l.take i++nw++l.drop (i+nw.length)).length=_;have:m+5<=l.length:=h2;simp only [List.length_append,List.length_take,List.length_drop];omega
 rw [e1];have hl:m+5<=l.length:=h2;constructor
 ·simp only [List.length_append,List.length_take,List.length_drop];omega
 ·rw [List.take_append_of_le_length (by simp only [List.length_append,List.length_take,List.length_drop];omega),List.take_of_length_le (by simp only [List.length_append,List.length_take,List.length_drop];omega)]
def fc (f:Ar.F):List Value:=[.string f.name,.int .i64 f.dict,.int .i64 f.size,.int .i64 f.sum,.string f.blk]
theorem Znb (fs:List Ar.F) (f:Ar.F) (i:Nat):fcs (fs.take i++f :: fs.drop i)=(fcs fs).take (i*5)++fc f++(fcs fs).drop (i*5):=by
 rw [Zz,fcs,Zeg,ZdZ,List.append_assoc];rfl
def Zbe (lo:Nat) (fs:List Ar.F) (v2:Value) (w:World) (e:Ending) (w':World):Prop:=∃ g cap,e=.returned (.slice (some ⟨g,0,none⟩) fs.length cap)/\w'.ownsRow lo 46 5 (.slice (some ⟨g,0,none⟩) fs.length cap) fs.length (fcs fs)/\w.grownBy w' v2.ownBlock/\(v2.ownBlock=some g\/w.heap.size<=g)
theorem ZcL:(Tryz.prog.info? 46).map (·.size)=some 5:=by kernel_rfl
theorem Ztr {w:World} {vb:Nat} {cs:List Value} {t:TypeId} (h:w.heap[vb]?=some (.cells cs.toArray t (0,0))):∀ j u,cs[j]?=some u->w.cell? ((⟨vb,0,none⟩:Addr).add j)=some u:=by
 intro j u hj;rw [ZaZ];simp only [World.cell?,h];simpa using hj
theorem ZlK (lo:Nat) (fs:List Ar.F) (f:Ar.F) (v2:Value) (vb:Nat) (t:TypeId) (w:World) (hown:w.ownsRow lo 46 5 v2 fs.length (fcs fs)) (hn:fs.length<=12) (hvb:w.heap[vb]?=some (.cells (fc f).toArray t (0,0))) (hlo:lo<=w.heap.size) :
 Calls Tryz.prog 54 #[v2,.int .i64 (fs.length:Nat),.slice (some ⟨vb,0,none⟩) 1 1] w fun e w'=>Zbe lo (fs++[f]) v2 w e w':=by
 obtain ⟨j0,gi,gz0,gz1,gz2⟩:=info_parts (P:=Tryz.prog) (e:=46) (z:=.agg #[.string ⟨#[]⟩,.int .i64 0,.int .i64 0,.int .i64 0,.string ⟨#[]⟩]) (size:=5) (bytes:=56) (by kernel_rfl);have hnews:=Ztr hvb
 have HE:Hid (∀ g cap w',w'.ownsRow lo 46 5 (.slice (some ⟨g,0,none⟩) (fs.length+1) cap) (fs.length+1) (fcs fs++fc f)->w.grownBy w' v2.ownBlock->(v2.ownBlock=some g\/g=w.heap.size)->Zbe lo (fs++[f]) v2 w (.returned (.slice (some ⟨g,0,none⟩) (fs.length+1) cap)) w'):=fun g cap w' h1 h2 h3=>by
  refine ⟨g,cap,by rw [List.length_append];rfl,?_,h2,h3.imp id (fun e=>by omega)⟩;rw [List.length_append,Zz];exact h1
 clear hvb;generalize hN:fs.length=N at *;clear hN;rcases hown.2 with ⟨rfl,rfl⟩ | ⟨g,cap,cur,rfl,h2,h3,h4,h5,h6,h7⟩
 ·go_enter Tryz.func54,Tryz.ntmps54
  go_wp2_with (first
   | (at_builtin;refine zwL _ rfl _ _ 23 rfl lo 46 j0 (.agg #[.string ⟨#[]⟩,.int .i64 0,.int .i64 0,.int .i64 0,.string ⟨#[]⟩]) 5 56 U23 gi gz0 gz1 gz2 rfl (by decide) _ _ _ rfl hown ⟨vb,0,none⟩ 1 1 (fc f) rfl rfl hnews (one5 _ _ _ _ _) (by decide) (by unfold maxLen;omega) (by omega) hlo _ rfl ?_;intro g cp w7 hown7 hgrow7 hat7 hlt7;have hfin:=HE.out g cp w7 hown7 hgrow7 hat7;clear hgrow7 hown7 hat7 hlt7)
   | fail)
  go_ret
  exact hfin
 ·have hNi:(N:Int)<=12:=by omega
  have hNc:(N:Int)<=(cap:Int):=by omega
  by_cases hce:cap=N
  ·subst hce;go_enter Tryz.func54,Tryz.ntmps54
   go_wp2_with (first
    | (at_builtin;refine zwL _ rfl _ _ 23 rfl lo 46 j0 (.agg #[.string ⟨#[]⟩,.int .i64 0,.int .i64 0,.int .i64 0,.string ⟨#[]⟩]) 5 56 U23 gi gz0 gz1 gz2 rfl (by decide) _ _ _ rfl hown ⟨vb,0,none⟩ 1 1 (fc f) rfl rfl hnews (one5 _ _ _ _ _) (by decide) (by unfold maxLen;omega) (by omega) hlo _ rfl ?_;intro g cp w7 hown7 hgrow7 hat7 hlt7;have hfin:=HE.out g cp w7 hown7 hgrow7 hat7;clear hgrow7 hown7 hat7 hlt7)
    | fail)
   go_ret
   exact hfin
  ·have hce':¬ (cap:Int)=(N:Int):=by omega
   go_enter Tryz.func54,Tryz.ntmps54
   go_wp2_with (first
    | (at_builtin;refine zwL _ rfl _ _ 23 rfl lo 46 j0 (.agg #[.string ⟨#[]⟩,.int .i64 0,.int .i64 0,.int .i64 0,.string ⟨#[]⟩]) 5 56 U23 gi gz0 gz1 gz2 rfl (by decide) _ _ _ rfl hown ⟨vb,0,none⟩ 1 1 (fc f) rfl rfl hnews (one5 _ _ _ _ _) (by decide) (by unfold maxLen;omega) (by omega) hlo _ rfl ?_;intro g cp w7 hown7 hgrow7 hat7 hlt7;have hfin:=HE.out g cp w7 hown7 hgrow7 hat7;clear hgrow7 hown7 hat7 hlt7)
    | fail)
   go_ret
   exact hfin
theorem ZrK {w:World} {g:Nat} {cur:Array Value} {t:TypeId} (h:w.heap[g]?=some (.cells cur t (0,0))):w.shape? g=some (t,cur.size):=by simp [World.shape?,h]
theorem ZeF {w:World} {g:Nat} {cur:Array Value} {t:TypeId} (h:w.heap[g]?=some (.cells cur t (0,0))) (o:Nat):w.frozen? ⟨g,o,none⟩=false:=by simp [World.frozen?,h]
theorem ZhR {w:World} {g:Nat} {cur:Array Value} {t:TypeId} (h:w.heap[g]?=some (.cells cur t (0,0))) (o:Nat):w.cell? ⟨g,o,none⟩=cur[o]?:=by simp [World.cell?,h]
theorem Zan (w:World) (g:Nat) (a:Array Value):w.grownBy (w.setRow g a) (some g):=by
 refine ⟨rfl,rfl,rfl,by simp,fun k hk hne=>?_⟩;exact setRow_other w g k a (fun e=>hne (by rw [e]))
theorem ZhD (lo:Nat) (fs:List Ar.F) (f:Ar.F) (g cap i:Nat) (cur:Array Value) (vb:Nat) (t:TypeId) (w:World) (hg:w.heap[g]?=some (.cells cur 46 (0,0))) (hlo:lo<=g) (hcap:cap<=maxLen) (hcur:cur.size=cap*5) (htk:cur.toList.take (fs.length*5)=fcs fs)
 (hn:fs.length<=12) (hi:i<fs.length) (hroom:fs.length+1<=cap) (hvb:w.heap[vb]?=some (.cells (fc f).toArray t (0,0))) (hne:vb ≠ g) :
 Calls Tryz.prog 54 #[.slice (some ⟨g,0,none⟩) fs.length cap,.int .i64 (i:Nat),.slice (some ⟨vb,0,none⟩) 1 1] w fun e w'=>Zbe lo (fs.take i++f :: fs.drop i) (.slice (some ⟨g,0,none⟩) fs.length cap) w e w':=by
 have hfl:(fc f).length=5:=rfl;have hcl:(fcs fs).length=fs.length*5:=Zah fs
 have hov:∀ lb cb o,(callFunc 94 #[.slice (some ⟨vb,0,none⟩) 1 1,.slice (some ⟨g,o,none⟩) lb cb]).run Tryz.prog w=.ok (.value (.bool false)) w:=fun lb cb o=>by
  rw [run_callFunc_extern Tryz.func94 (by kernel_rfl) (by kernel_rfl) (by kernel_rfl) (e:=Extern.SlicesOverlaps.overlaps #[23,23] #[4]) (by kernel_rfl),
   Lib.run_overlaps_apart w 23 4 46 U23 5 Tryz.sizeOf46 ⟨vb,0,none⟩ ⟨g,o,none⟩ 1 1 lb cb hne t 46 5 cur.size (ZrK hvb) (ZrK hg) (by omega) (ZeF hvb 0) (ZeF hvb 5)]
  rfl
 obtain ⟨cur1,hcur1⟩:∃ cur1:Array Value,cur1=(cur.toList.take ((i*5+5))++(fcs fs).drop (i*5)++cur.toList.drop ((i*5+5)+((fcs fs).drop (i*5)).length)).toArray:=⟨_,rfl⟩
 obtain ⟨cur2,hcur2⟩:∃ cur2:Array Value,cur2=(cur1.toList.take (i*5)++fc f++cur1.toList.drop (i*5+(fc f).length)).toArray:=⟨_,rfl⟩
 have hsz5:(fs.length+1)*5<=cur.size:=by rw [hcur];omega
 have h2c:=ZkO (l:=cur.toList) (cs:=fcs fs) (nw:=fc f) (m:=fs.length*5) (i:=i*5) htk (by simp;omega) (by omega) hfl;simp only at h2c;have hl1:cur1.toList=cur.toList.take ((i*5+5))++(fcs fs).drop (i*5)++cur.toList.drop ((i*5+5)+((fcs fs).drop (i*5)).length):=by rw [hcur1]
 rw [<-hl1] at h2c;have hl2:cur2.toList=cur1.toList.take (i*5)++fc f++cur1.toList.drop (i*5+(fc f).length):=by rw [hcur2]
 rw [<-hl2] at h2c
 have hs1:cur1.size=cur.size:=by
  rw [<-Array.length_toList,hl1];simp only [List.length_append,List.length_take,List.length_drop,hcl,Array.length_toList];omega
 have hcp1:∀ ty dc sc,(Builtin.copy_ #[23,23] ty #[.slice (some ⟨g,(i+1)*5,none⟩) (fs.length - i) dc,.slice (some ⟨g,i*5,none⟩) (fs.length+1 - i) sc]).run Tryz.prog w.drew=.ok (goInt ((fs.length - i:Nat):Int)) (w.drew.setRow g cur1):=fun ty dc sc=>by
  have hm:Nat.min (fs.length+1 - i) (fs.length - i)=fs.length - i:=by simp only [Nat.min_def];split <;> omega
  have:=ZaN w.drew 23 23 ty 46 g ((i*5+5)) (fs.length - i) dc ⟨g,i*5,none⟩ (fs.length+1 - i) sc cur 46 ((fcs fs).drop (i*5)) U23 ZcL hg (by rw [hm,List.length_drop,hcl];omega)
   (fun j v hj=>by
    rw [Go.WideShapes.add_plain];show w.cell? ⟨g,i*5+j,none⟩=some v;rw [ZhR hg,<-Array.getElem?_toList];rw [List.getElem?_drop,<-htk,List.getElem?_take] at hj;split at hj
    ·exact hj
    ·cases hj)
   (by rw [List.length_drop,hcl];omega) (fun v hv=>ZeY fs v (List.mem_of_mem_drop hv))
  rw [hm,<-hcur1] at this;rw [show (i+1)*5=i*5+5 by omega];exact this
 have hg1:(w.drew.setRow g cur1).heap[g]?=some (.cells cur1 46 (0,0)):=setRow_heap w.drew g cur cur1 _ _ hg;have hv1:(w.drew.setRow g cur1).heap[vb]?=some (.cells (fc f).toArray t (0,0)):=(setRow_other w.drew g vb cur1 hne).trans hvb
 have hcp2:∀ ty dc,(Builtin.copy_ #[23,23] ty #[.slice (some ⟨g,i*5,none⟩) (fs.length+1 - i) dc,.slice (some ⟨vb,0,none⟩) 1 1]).run Tryz.prog (w.drew.setRow g cur1)=.ok (goInt 1) ((w.drew.setRow g cur1).setRow g cur2):=fun ty dc=>by
  have hm:Nat.min 1 (fs.length+1 - i)=1:=by simp only [Nat.min_def];split <;> omega
  have:=ZaN (w.drew.setRow g cur1) 23 23 ty 46 g (i*5) (fs.length+1 - i) dc ⟨vb,0,none⟩ 1 1 cur1 46 (fc f) U23 ZcL hg1 (by rw [hm];rfl) (Ztr hv1) (by rw [hfl,hs1];omega) (one5 _ _ _ _ _);rw [hm,<-hcur2] at this;exact this
 have hfin:Zbe lo (fs.take i++f :: fs.drop i) (.slice (some ⟨g,0,none⟩) fs.length cap) w (.returned (.slice (some ⟨g,0,none⟩) (fs.length+1) cap)) ((w.drew.setRow g cur1).setRow g cur2):=by
  have hlen:(fs.take i++f :: fs.drop i).length=fs.length+1:=by rw [List.length_append,List.length_cons,List.length_take,List.length_drop];omega
  refine ⟨g,cap,by rw [hlen],?_,?_,.inl rfl⟩
  ·rw [hlen];refine ⟨by rw [Zah,hlen],.inr ⟨g,cap,cur2,rfl,hlo,setRow_heap _ g cur1 cur2 _ _ hg1,hroom,hcap,?_,?_⟩⟩
   ·rw [<-hcur,<-Array.length_toList,h2c.1,Array.length_toList]
   ·rw [show (fs.length+1)*5=fs.length*5+5 by omega,h2c.2,Znb]
  ·have a1:=Zan w.drew g cur1;have a2:=Zan (w.drew.setRow g cur1) g cur2
   have a0:w.grownBy w.drew (some g):=⟨rfl,rfl,rfl,nl _,fun _ _ _=>rfl⟩
   exact (a0.trans a1).trans a2
 clear hl1 hl2 hcur1 hcur2 h2c htk hcl hcur hsz5 hs1 hg hvb hg1 hv1 hfl;generalize (Zbe lo (fs.take i++f :: fs.drop i) (.slice (some ⟨g,0,none⟩) fs.length cap) w)=Q at *;generalize fs.length=N at *;have hz2:¬ ((i:Int)=(N:Int)):=by omega
 have hz3:¬ (cap:Int)<(N:Int)+1:=by omega
 have hb3:(i:Int)<=(N:Int)+1:=by omega
 have hcN:¬ cap=i:=by omega
 have hcN1:¬ cap=i+1:=by omega
 have hNi:(N:Int)<=12:=by omega
 have hii:(i:Int)<(N:Int):=by omega
 have hcm:(cap:Int)<=9223372036854775807:=by unfold maxLen at hcap;omega
 have hroom':(N:Int)+1<=(cap:Int):=by omega
 have hw1:IntKind.i64.wrap ((i:Int)+1)=(i:Int)+1:=by rw [IntKind.wrap_i64];omega
 have hb1:(0:Int)<=(i:Int)+1:=by omega
 have htn:((i:Int)+1).toNat=i+1:=by omega
 have hin1:(i:Int)+1<=(N:Int)+1:=by omega
 have hin2:i<=N:=by omega
 have hin3:i<=N+1:=by omega
 have hin4:i+1<=N+1:=by omega
 go_enter Tryz.func54,Tryz.ntmps54
 go_wp2_with (simp only [hov])
 go_region_law (refine step_copy_runI rfl _ _ 23 23 rfl _ _ (by simp [Act.eval,Act.put]) (by simp [Act.eval,Act.put]) (hcp1 _ _ _) ?_)
 go_wp2_with (first
  | (at_builtin;refine wpList_copy_runI _ rfl _ _ 23 23 rfl _ _ rfl rfl (hcp2 _ _) ?_)
  | fail)
 exact hfin
end Go.Proofs.YtbjbjbpgmojcbabGreat
