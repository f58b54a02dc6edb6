/- A part of the proof: what it leans on. -/
import Derived.Defers
import Derived.Recover
import Derived.Test.YtbjbjbpgmojcbabGreatLsBook11
set_option maxRecDepth 8000
set_option maxHeartbeats 8000000
namespace Go.Proofs.YtbjbjbpgmojcbabGreat
open Go.RowKit
structure CpS (w0 wr:World) (C lo:Nat) (v1 v2:Value) (n1 n2:Nat) (xs1 xs2:List Value):Prop where
 c0:wr.cell? ⟨C,0,none⟩=some v1
 c1:wr.cell? ⟨C,1,none⟩=some v2
 f0:wr.frozen? ⟨C,0,none⟩=false
 f1:wr.frozen? ⟨C,1,none⟩=false
 o1:wr.ownsRow lo 9 1 v1 n1 xs1
 o2:wr.ownsRow lo 46 5 v2 n2 xs2
 ne:∀ j,v1.ownBlock=some j->v2.ownBlock ≠ some j
 a1:v1.ownBlock ≠ some C
 a2:v2.ownBlock ≠ some C
 hC:lo<=C
 hb:C<wr.heap.size
 bel:Below lo w0 wr
theorem CpS.below {w0 wr w':World} {C lo:Nat} {v1 v2:Value} {n1 n2:Nat} {xs1 xs2:List Value} (h:CpS w0 wr C lo v1 v2 n1 n2 xs1 xs2) (hb:Below wr.heap.size wr w'):CpS w0 w' C lo v1 v2 n1 n2 xs1 xs2:=by
 have hB:=h.hb;have hl:=h.hC
 exact ⟨(hb.cell (p:=⟨C,0,none⟩) hB).trans h.c0,(hb.cell (p:=⟨C,1,none⟩) hB).trans h.c1,(hb.frozen (p:=⟨C,0,none⟩) hB).trans h.f0,(hb.frozen (p:=⟨C,1,none⟩) hB).trans h.f1,
  Zh h.o1 hb,Zh h.o2 hb,h.ne,h.a1,h.a2,h.hC,nT hB hb.size,h.bel.trans (hb.mono (by omega))⟩
theorem CpS.put1 {w0 wr w2:World} {C lo g cap n1 m n2:Nat} {v1 v2:Value} {xs1 ys xs2:List Value} {o:Obj} (h:CpS w0 wr C lo v1 v2 n1 n2 xs1 xs2) (hg:(wr.alloc o).grownBy w2 v1.ownBlock)
 (ho:w2.ownsRow lo 9 1 (.slice (some ⟨g,0,none⟩) m cap) m ys) (hl:v1.ownBlock=some g\/g=(wr.alloc o).heap.size) :
 ((w2.cell? ⟨C,0,none⟩=some v1/\w2.frozen? ⟨C,0,none⟩=false)/\CpS w0 (w2.setCell ⟨C,0,none⟩ (.slice (some ⟨g,0,none⟩) m cap)) C lo (.slice (some ⟨g,0,none⟩) m cap) v2 m n2 ys xs2) ∧
 ∀ c v,wr.cell? ⟨c,0,none⟩=some v->c ≠ C->v1.ownBlock ≠ some c->(w2.setCell ⟨C,0,none⟩ (.slice (some ⟨g,0,none⟩) m cap)).cell? ⟨c,0,none⟩=some v:=by
 have hB:=h.hb;have hlC:=h.hC;have hsz:(wr.alloc o).heap.size=wr.heap.size+1:=by simp
 have ha:=h.below ((bR _ _).alloc (nl _) o);have n0:some C ≠ v1.ownBlock:=h.a1.symm;have k0:=Ze hg ha.c0 n0;have k1:=Ze hg ha.c1 n0;have q0:=Zr hg (by omega) ha.f0 n0;have q1:=Zr hg (by omega) ha.f1 n0;have hsg:=Zb w2 ⟨C,0,none⟩ (.slice (some ⟨g,0,none⟩) m cap);have hz:(wr.alloc o).heap.size<=w2.heap.size:=hg.size
 have hgC:g ≠ C:=by
  rcases hl with hl | hl
  ·rintro rfl;exact h.a1 hl
  ·omega
 refine ⟨⟨⟨k0,q0⟩,cS _ _ _ k0,?_,by rw [World.frozen?_setCell];exact q0,by rw [World.frozen?_setCell];exact q1,ho.kept hsg (.inr (by simp [Value.ownBlock];exact hgC)),?_,?_,by simp [Value.ownBlock];exact hgC,h.a2,hlC,?_,?_⟩,?_⟩
 ·exact (cO w2 _ _ _ (by intro e;have:=congrArg Addr.off e;simp at this)).trans k1
 ·refine (ha.o2.kept hg ?_).kept hsg (.inr h.a2)
  cases hv:v2.ownBlock with
  | none=>exact .inl rfl
  | some j=>exact .inr (fun e=>h.ne j e.symm hv)
 ·intro j hj e;simp [Value.ownBlock] at hj;subst hj;rcases hl with hl | hl
  ·exact h.ne g hl e
  ·have:=(h.o2.lt g e).2;omega
 ·have:=hsg.size;omega
 ·exact ((h.bel.alloc (by omega) o).grown hg (by omega) (fun j hj=>(h.o1.lt j hj).1)).setCell hlC _
 ·intro c v hc hcC hcv;have hcl:=cL wr _ hc;exact Ze hsg (Ze hg ((cA wr o _ hcl).trans hc) (fun e=>hcv e.symm)) (by simp;exact hcC)
theorem Zqb {w:World} {lo g cap i:Nat} {fs:List Ar.F} (d:Int) (h:w.ownsRow lo 46 5 (.slice (some ⟨g,0,none⟩) fs.length cap) fs.length (fcs fs)) (hi:i<fs.length) :
 (w.setCell ⟨g,i*5+1,none⟩ (.int .i64 d)).ownsRow lo 46 5 (.slice (some ⟨g,0,none⟩) fs.length cap) fs.length (fcs (fs.take i++{ Ar.fa fs i with dict:=d } :: fs.drop (i+1)))/\w.cell? ⟨g,i*5+1,none⟩=some (.int .i64 (Ar.fa fs i).dict)/\w.frozen? ⟨g,i*5+1,none⟩=false:=by
 have hcl:=Zah fs;rcases h.2 with ⟨h1,h2⟩ | ⟨g',cap',cur,h1,h2,h3,h4,h5,h6,h7⟩
 ·omega
 simp only [Value.slice.injEq,Option.some.injEq,Addr.mk.injEq] at h1;obtain ⟨⟨rfl,_⟩,_,rfl⟩:=h1
 have hat:∀ j,j<5->w.cell? ⟨g,i*5+j,none⟩=(fc (Ar.fa fs i))[j]?:=fun j hj=>by
  rw [ZhR h3,<-Array.getElem?_toList];have e1:cur.toList[i*5+j]?=(fcs fs)[i*5+j]?:=by rw [<-h7,List.getElem?_take,if_pos (by omega)]
  have e2:fs=fs.take i++Ar.fa fs i :: fs.drop (i+1):=by
   have e3:Ar.fa fs i=fs[i]:=by simp [Ar.fa,hi]
   rw [e3,<-List.drop_eq_getElem_cons hi,List.take_append_drop]
  rw [e1,e2,Zz,List.getElem?_append_right (by rw [Zah,List.length_take];omega),Zah,List.length_take,show i*5+j - min i fs.length*5=j by omega,fcs,List.getElem?_append_left (by simp;omega),<-e2];rfl
 have k0:w.cell? ⟨g,i*5,none⟩=some (.string (Ar.fa fs i).name):=hat 0 (by omega);have k1:w.cell? ⟨g,i*5+1,none⟩=some (.int .i64 (Ar.fa fs i).dict):=hat 1 (by omega);have k2:w.cell? ⟨g,i*5+2,none⟩=some (.int .i64 (Ar.fa fs i).size):=hat 2 (by omega);have k3:w.cell? ⟨g,i*5+3,none⟩=some (.int .i64 (Ar.fa fs i).sum):=hat 3 (by omega);have k4:w.cell? ⟨g,i*5+4,none⟩=some (.string (Ar.fa fs i).blk):=hat 4 (by omega);refine ⟨?_,k1,ZeF h3 _⟩;have hw:=Zgu { Ar.fa fs i with dict:=d } h hi;unfold w5s at hw;simp only at hw;rw [ZR k0] at hw;have j2:=(ZaH w g (i*5+1) (i*5+2) (.int .i64 d) (by omega)).trans k2;have j3:=(ZaH w g (i*5+1) (i*5+3) (.int .i64 d) (by omega)).trans k3;have j4:=(ZaH w g (i*5+1) (i*5+4) (.int .i64 d) (by omega)).trans k4;rw [ZR j2,ZR j3,ZR j4] at hw;exact hw
theorem CpS.set1 {w0 wr:World} {C lo g cap n1 i:Nat} {v1:Value} {xs1:List Value} {fs:List Ar.F} (d:Int) (h:CpS w0 wr C lo v1 (.slice (some ⟨g,0,none⟩) fs.length cap) n1 fs.length xs1 (fcs fs)) (hi:i<fs.length) :
 CpS w0 (wr.setCell ⟨g,i*5+1,none⟩ (.int .i64 d)) C lo v1 (.slice (some ⟨g,0,none⟩) fs.length cap) n1 fs.length xs1 (fcs (fs.take i++{ Ar.fa fs i with dict:=d } :: fs.drop (i+1)))/\wr.cell? ⟨g,i*5+1,none⟩=some (.int .i64 (Ar.fa fs i).dict)/\wr.frozen? ⟨g,i*5+1,none⟩=false:=by
 obtain ⟨r1,r2,r3⟩:=Zqb d h.o2 hi;have hsg:=Zb wr ⟨g,i*5+1,none⟩ (.int .i64 d);have hgC:some C ≠ some g:=fun e=>h.a2 (show some g=some C from e.symm)
 have hg:=(h.o2.lt g rfl).1;refine ⟨⟨Ze hsg h.c0 hgC,Ze hsg h.c1 hgC,Zr hsg h.hb h.f0 hgC,Zr hsg h.hb h.f1 hgC,h.o1.kept hsg ?_,r1,h.ne,h.a1,h.a2,h.hC,nT h.hb hsg.size,h.bel.setCell hg _⟩,r2,r3⟩
 cases hv:v1.ownBlock with
 | none=>exact .inl rfl
 | some j=>exact .inr (fun e=>h.ne j hv e.symm)
theorem Fr.keep {w w0 w':World} {x y:Value} {lo:Nat} (h:Fr w w0 x y) (G:Below lo w0 w') (hl:w.heap.size+1<lo):Fr w w' x y:=by
 have h1:w.heap.size<lo:=by omega
 exact ⟨h.b.trans (G.mono (by omega)),(G.cell (p:=⟨w.heap.size,0,none⟩) h1).trans h.a0,(G.cell (p:=⟨w.heap.size,1,none⟩) h1).trans h.a1,(G.cell (p:=⟨w.heap.size+1,0,none⟩) hl).trans h.r0,(G.cell (p:=⟨w.heap.size+1,1,none⟩) hl).trans h.r1,
  (G.frozen (p:=⟨w.heap.size+1,0,none⟩) hl).trans h.z0,(G.frozen (p:=⟨w.heap.size+1,1,none⟩) hl).trans h.z1,nT h.hz G.size⟩
namespace Ar
theorem ZjW (a:A):∀ k,rkK a k<=k
 | 0=>nl _
 | k+1=>by have:=ZjW a k;rw [rkK];split <;> omega
theorem Zcn (a:A):∀ k,(cpD a k).length=rkK a k
 | 0=>rfl
 | k+1=>by
  rw [cpD,rkK];split
  ·rw [List.length_append,Zcn a k];rfl
  ·rw [Zcn a k];rfl
theorem Znc {a:A} (h:chk a=0):cmpA a=⟨cpD a a.dicts.length,a.files.map (cpF a a.dicts.length)⟩:=if_pos h
theorem Zpl (a:A) (k:Nat) (f:F):(cpF a k f).name=f.name:=by unfold cpF;split <;> rfl
theorem ZmR (a:A) (k:Nat) (f:F):(cpF a k f).size=f.size/\(cpF a k f).sum=f.sum/\(cpF a k f).blk=f.blk:=by unfold cpF;split <;> exact ⟨rfl,rfl,rfl⟩
theorem ZiT {a:A} {d:ByteArray}:∀ {k:Nat},k<=a.dicts.length->d ∈ cpD a k->d ∈ a.dicts
 | 0,_,h=>by simp [cpD] at h
 | k+1,hk,h=>by
  rw [cpD] at h;split at h
  ·rcases List.mem_append.1 h with h | h
   ·exact ZiT (by omega) h
   ·rw [List.mem_singleton] at h;subst h;rw [show Tr.xa a.dicts k=a.dicts[k] by simp [Tr.xa,show k<a.dicts.length by omega]];exact gM _
  ·exact ZiT (by omega) h
theorem Zcv {a:A} {size:Int} (h:retE a size=0):chk a=0/\0<=size/\size<=256/\a.dicts.length ≠ 4:=by
 unfold retE at h;by_cases h1:chk a=0
 ·rw [if_neg (fun h9=>h9 h1)] at h;by_cases h2:0<=size/\size<=256
  ·rw [if_pos h2] at h;by_cases h3:a.dicts.length=4
   ·rw [if_pos h3] at h;cases h
   ·exact ⟨h1,h2.1,h2.2,h3⟩
  ·rw [if_neg h2] at h;cases h
 ·rw [if_pos h1] at h;exact absurd h h1
theorem ZiR {a:A} {size:Int} (h:retE a size=0):retA a size=⟨retD a size,a.files.map fun f=>pk (retD a size) f.name (tx a.dicts f) (a.dicts.length+1:Nat)⟩:=if_pos h
theorem Zrj {ds:List ByteArray} {f:F} (h:okf ds f=true):(up ds f).2=0:=by
 unfold okf at h;rw [Bool.and_eq_true] at h;exact (of_decide_eq_true h.2).1
theorem Zdq {a:A} (h:chk a=0) {f:F} (hf:f ∈ a.files):(tx a.dicts f).size<=512:=by
 obtain ⟨hm,hg⟩:=Zd.1 h;exact Bk.unp_size (Zrj ((Zsa.1 hg).1 f hf).2)
theorem Zfw {a:A} {size:Int} (h:retE a size=0):many ⟨retD a size,a.files⟩=false:=by
 obtain ⟨h1,h2,h3,h4⟩:=Zcv h;obtain ⟨m1,m2,m3⟩:=Zw.1 (Zd.1 h1).1;refine Zw.2 ⟨by show (a.dicts++[_]).length<=4;rw [List.length_append];simp;omega,m2,?_⟩;intro d hd;rcases List.mem_append.1 hd with hd | hd
 ·exact m3 d hd
 ·rw [List.mem_singleton] at hd;subst hd;have:=(Tr.Zgf (txs a) size.toNat).most;omega
theorem ZcZ {a:A} (h:chk a=0):(txs a).length<=12/\∀ t ∈ txs a,t.size<=512:=by
 obtain ⟨m1,m2,m3⟩:=Zw.1 (Zd.1 h).1;refine ⟨by unfold txs;rw [List.length_map];exact m2,fun t ht=>?_⟩;obtain ⟨f,hf,rfl⟩:=List.mem_map.1 ht;exact Zdq h hf
end Ar
namespace Ar
def cpI (a:A) (k m:Nat):List F:=(a.files.take m).map (cpF a (k+1))++(a.files.drop m).map (cpF a k)
theorem Znk {a:A} {k m:Nat} (h:m<=a.files.length):(cpI a k m).length=a.files.length:=by
 unfold cpI;rw [List.length_append,List.length_map,List.length_map,List.length_take,List.length_drop];omega
theorem Zke (a:A) (k:Nat):cpI a k 0=a.files.map (cpF a k):=by simp [cpI]
theorem Zmg (a:A) (k:Nat):cpI a k a.files.length=a.files.map (cpF a (k+1)):=by simp [cpI]
theorem ZgS {a:A} {k:Nat} {f:F} (h:f.dict ≠ ((k+1:Nat):Int)):cpF a (k+1) f=cpF a k f:=by
 unfold cpF;by_cases h1:1<=f.dict/\f.dict<=(k:Int)
 ·rw [if_pos h1,if_pos ⟨h1.1,by omega⟩]
 ·rw [if_neg h1,if_neg (fun h2=>h1 ⟨h2.1,by omega⟩)]
theorem Zsc {a:A} {k:Nat} {f:F} (h:f.dict=((k+1:Nat):Int)):cpF a (k+1) f={ f with dict:=(rkK a (k+1):Nat) }/\cpF a k f=f:=by
 unfold cpF;constructor
 ·rw [if_pos ⟨by omega,by omega⟩,h,Int.toNat_natCast]
 ·rw [if_neg (fun h1=>by omega)]
theorem Zmk {fs:List F} {m:Nat} (h:m<fs.length):fs.drop m=fa fs m :: fs.drop (m+1):=by
 rw [List.drop_eq_getElem_cons h,ZaJ h]
theorem Zho {a:A} {k m:Nat} (h:m<a.files.length):cpI a k m=(a.files.take m).map (cpF a (k+1))++cpF a k (fa a.files m) :: (a.files.drop (m+1)).map (cpF a k)/\cpI a k (m+1)=(a.files.take m).map (cpF a (k+1))++cpF a (k+1) (fa a.files m) :: (a.files.drop (m+1)).map (cpF a k):=by
 unfold cpI;rw [Zmk h,ZQ h];simp
theorem Zre {a:A} {k m:Nat} (h:m<a.files.length) (hd:(fa a.files m).dict ≠ ((k+1:Nat):Int)):cpI a k (m+1)=cpI a k m:=by
 obtain ⟨h1,h2⟩:=Zho (k:=k) h;rw [h1,h2,ZgS hd]
theorem ZnK {a:A} {k m:Nat} (h:m<a.files.length) (hd:(fa a.files m).dict=((k+1:Nat):Int)):cpI a k (m+1)=(cpI a k m).take m++{ fa (cpI a k m) m with dict:=(rkK a (k+1):Nat) } :: (cpI a k m).drop (m+1):=by
 obtain ⟨h1,h2⟩:=Zho (k:=k) h;obtain ⟨e1,e2⟩:=Zsc (a:=a) hd;have hl:((a.files.take m).map (cpF a (k+1))).length=m:=by rw [List.length_map,List.length_take];omega
 rw [h1,h2,e1,e2];generalize (a.files.take m).map (cpF a (k+1))=P at *;generalize (a.files.drop (m+1)).map (cpF a k)=R;generalize fa a.files m=f;subst hl;have e3:fa (P++f :: R) P.length=f:=by simp [fa]
 rw [e3];simp
theorem Zmv {a:A} {k:Nat} (h:used a ((k+1:Nat):Int)=false):cpD a (k+1)=cpD a k/\a.files.map (cpF a (k+1))=a.files.map (cpF a k):=by
 constructor
 ·rw [cpD,if_neg (by rw [h];decide)]
 ·apply List.map_congr_left;intro f hf;apply ZgS;intro e;have:used a ((k+1:Nat):Int)=true:=by unfold used;rw [List.any_eq_true];exact ⟨f,hf,zdT e⟩
  rw [h] at this;cases this
theorem ZnN {a:A} {k:Nat} (h:used a ((k+1:Nat):Int)=true):cpD a (k+1)=cpD a k++[Tr.xa a.dicts k]:=by
 rw [cpD,if_pos h]
end Ar
theorem Zia (ad af:Option Addr) (cd cf:Nat) (a:Ar.A) (w:World) (h:ArV w ad af a) (hs:SaneA a) (hc:Ar.chk a ≠ 0) :
 Calls Tryz.prog 26 #[av ad cd af cf a] w fun e w'=>ArSaid w Ar.az (Ar.chk a) e w':=by
 have C1:Hid (∀ w',Below w.heap.size w w'->Calls Tryz.prog 18 #[av ad cd af cf a] w' fun e w2=>e=.returned (.int .i64 (Ar.chk a))/\Below w'.heap.size w' w2):=fun w' h9=>Zx ad af cd cf a w' (h.below h9) hs
 have hQ:Hid (∀ w',Below w.heap.size w w'->ArSaid w Ar.az (Ar.chk a) (.returned (.tuple #[.agg #[.slice none 0 0,.slice none 0 0],.int .i64 (Ar.chk a)])) w'):=fun w' h9=>Zy h9
 generalize ArSaid w Ar.az (Ar.chk a)=Q at *;unfold av at C1 |-
 generalize Ar.chk a=E at *;generalize a.dicts.length=D at *;generalize a.files.length=N at *;have e1:(E != 0)=true:=by simpa using hc
 have e2:(E == 0)=false:=by simpa using hc
 clear h hs;go_enter Tryz.func26,Tryz.ntmps26
 go_wp2_with fail
 refine (C1.out _ (Fr.start w _ _).b).mono ?_;rintro e w1 ⟨rfl,G1⟩;have F1:=(Fr.start w _ _).next G1;clear G1;obtain ⟨b,a0,a1,r0,r1,z0,z1,hz⟩:=id F1;go_wp2_with fail
 rw [F1.zero];exact bodyPost_ret (v:=.tuple #[.agg #[.slice none 0 0,.slice none 0 0],.int .i64 E]) (by simp [results,Tryz.results26,go_sem,F1.r0,F1.r1]) rfl (hQ.out _ F1.b)
theorem ZlP (ad af:Option Addr) (cd cf:Nat) (a:Ar.A) (w:World) (h:ArV w ad af a) (hs:SaneA a) (hc:Ar.chk a=0) :
 Calls Tryz.prog 26 #[av ad cd af cf a] w fun e w'=>ArSaid w ⟨Ar.cpD a a.dicts.length,a.files.map (Ar.cpF a a.dicts.length)⟩ 0 e w':=by
 obtain ⟨i0,hi,hz0,hz1,hz2⟩:=info_parts (P:=Tryz.prog) (e:=9) (z:=.string ⟨#[]⟩) (size:=1) (bytes:=16) (by kernel_rfl);obtain ⟨m1,m2,m3⟩:=Ar.Zw.1 (Ar.Zd.1 hc).1;have C1:Hid (∀ w',Below w.heap.size w w'->Calls Tryz.prog 18 #[av ad cd af cf a] w' fun e w2=>e=.returned (.int .i64 (Ar.chk a))/\Below w'.heap.size w' w2):=fun w' h9=>Zx ad af cd cf a w' (h.below h9) hs
 have C6:Hid (∀ w',Below w.heap.size w w'->Calls Tryz.prog 53 #[av ad cd af cf a] w' fun e w2=>∃ v1 v2,e=.returned (.agg #[v1,v2])/\ArOwn w'.heap.size w2 v1 v2 a/\Below w'.heap.size w' w2):=fun w' h9=>Zbk ad af cd cf a w' (h.below h9) hs m1 m2
 have CU:Hid (∀ w' c k,Below w.heap.size w w'->w'.cell? ⟨c,0,none⟩=some (.int .i64 (k:Nat))->k<=4->Calls Tryz.prog 68 #[.slice af a.files.length cf,.func (.func 67) #[] #[.pointer (some ⟨c,0,none⟩)]] w' fun e w2=>e=.returned (.bool (Ar.used a ((k+1:Nat):Int)))/\Below w'.heap.size w' w2):=fun w' c k h9 h8 h7=>ZiY af cf a c k w' (h.fs.below h9) m2 h8 h7
 have HX:Hid (∀ w',Below w.heap.size w w'->∀ k,k<a.dicts.length->∃ b off,ad=some ⟨b,off,none⟩/\b<w'.heap.size/\w'.cell? ⟨b,off+k,none⟩=some (.string (Tr.xa a.dicts k))):=fun w' hb k hk=>(h.ds.below hb).at hk
 have HFl:Hid (∀ w',Below w.heap.size w w'->∀ k,k<a.files.length->∃ b off,af=some ⟨b,off,none⟩/\b<w'.heap.size/\FlC w' b (off+k*5) (Ar.fa a.files k)):=fun w' h9 k hk=>(h.fs.below h9).at hk
 have HZ:Hid (∀ k,(Tr.xa a.dicts k).size<=281474976710656):=fun k=>nt (hs.ds k) (by decide)
 rw [hc] at C1;unfold av at C1 C6 |-
 obtain ⟨D,hD⟩:∃ D,a.dicts.length=D:=⟨_,rfl⟩
 obtain ⟨N,hN⟩:∃ N,a.files.length=N:=⟨_,rfl⟩
 have HDD:Hid (a.dicts.length=D):=hD;have HNN:Hid (a.files.length=N):=hN;rw [hD] at C1 C6 HX m1 |-
 rw [hN] at C1 C6 CU HFl m2 |-
 have hQ:Hid (∀ v1 v2 w',w'.ownsRow w.heap.size 9 1 v1 (Ar.cpD a D).length ((Ar.cpD a D).map Value.string)->w'.ownsRow w.heap.size 46 5 v2 N (fcs (a.files.map (Ar.cpF a D)))->(∀ j,v1.ownBlock=some j->v2.ownBlock ≠ some j)->Below w.heap.size w w'->ArSaid w ⟨Ar.cpD a D,a.files.map (Ar.cpF a D)⟩ 0 (.returned (.tuple #[.agg #[v1,v2],.int .i64 0])) w'):=fun v1 v2 w' h1 h2 h3 h4=>⟨v1,v2,rfl,⟨h1,by show w'.ownsRow _ _ _ _ (a.files.map (Ar.cpF a D)).length _;rw [List.length_map,hN];exact h2,h3⟩,h4⟩
 generalize ArSaid w ⟨Ar.cpD a D,a.files.map (Ar.cpF a D)⟩ 0=Q at *;have HI0:Hid (∀ k,fcs (a.files.map (Ar.cpF a k))=fcs (Ar.cpI a k 0)):=fun k=>by rw [Ar.Zke]
 have HIN:Hid (∀ k,fcs (Ar.cpI a k N)=fcs (a.files.map (Ar.cpF a (k+1)))):=fun k=>by rw [<-hN,Ar.Zmg]
 have H0:Hid (a.files.map (Ar.cpF a 0)=a.files):=by
  show _=_;have:∀ f:Ar.F,Ar.cpF a 0 f=f:=fun f=>by unfold Ar.cpF;rw [if_neg (by omega)]
  rw [show Ar.cpF a 0=id from funext this,List.map_id]
 have HA:Hid (∀ lo w' v1 v2,ArOwn lo w' v1 v2 a->w'.ownsRow lo 9 1 v1 D (a.dicts.map Value.string)/\w'.ownsRow lo 46 5 v2 N (fcs (a.files.map (Ar.cpF a 0)))):=fun lo w' v1 v2 h9=>⟨by rw [<-hD];exact h9.o1,by rw [H0.out,<-hN];exact h9.o2⟩
 clear h hs hc m3 hD hN H0;have hDi:(D:Int)<=4:=by omega
 have hNi:(N:Int)<=12:=by omega
 go_enter Tryz.func26,Tryz.ntmps26
 go_wp2_with fail
 refine (C1.out _ (Fr.start w _ _).b).mono ?_;rintro e w1 ⟨rfl,G1⟩;have F1:=(Fr.start w _ _).next G1;clear G1 C1;obtain ⟨b,a0,a1,r0,r1,z0,z1,hz⟩:=id F1;go_wp2_with fail
 refine (C6.out _ F1.b).mono ?_;rintro e w6 ⟨v1,v2,rfl,O6,G6⟩;have F6:=F1.next G6;obtain ⟨o1,o2⟩:=HA.out _ _ _ _ O6;have hlo:w.heap.size+1<w1.heap.size:=F1.hz;have hl0:w1.heap.size<=w6.heap.size:=G6.size;generalize w1.heap.size=lo at o1 o2 hlo hl0;clear G6 O6 HA b a0 a1 r0 r1 z0 z1 hz C6 F1;obtain ⟨p1,q1,rfl,_⟩:=Zk o1;obtain ⟨p2,q2,rfl,_⟩:=Zk o2;obtain ⟨b,a0,a1,r0,r1,z0,z1,hz⟩:=id F6;have hz6:w.heap.size<w6.heap.size:=by omega
 have S0:CpS w6 (w6.alloc (.cells #[.slice none 0 0,.slice p2 N q2] 25 (0,0))) w6.heap.size lo (.slice none 0 0) (.slice p2 N q2) (Ar.cpD a 0).length N ((Ar.cpD a 0).map Value.string) (fcs (a.files.map (Ar.cpF a 0))) :=
  ⟨cN _ _ _ 0,cN _ _ _ 1,fN _ _ _ _ rfl,fN _ _ _ _ rfl,⟨rfl,.inl ⟨rfl,rfl⟩⟩,o2.alloc _,fun j hj=>by simp [Value.ownBlock] at hj,by simp [Value.ownBlock],fun e=>by have:=(o2.lt _ e).2;omega,hl0,by simp,(bR _ _).alloc hl0 _⟩
 clear o1 o2;go_wp2_with fail
 clear b a0 a1 r0 r1 z0 z1 hz;generalize (w6.alloc (.cells #[.slice none 0 0,.slice p2 N q2] 25 (0,0)))=w7 at *;generalize w6.heap.size=C at *;go_loopw [23] (fun i wr=>∃ (k:Nat) (v1:Value),k<=D/\i=.int .i64 k/\CpS w6 wr C lo v1 (.slice p2 N q2) (Ar.cpD a k).length N ((Ar.cpD a k).map Value.string) (fcs (a.files.map (Ar.cpF a k)))) (fun i _=>D - (intOf i).toNat)
 case atStart=>exact ⟨0,_,by omega,rfl,S0⟩
 case round =>
  clear S0;obtain ⟨k,v1,hk2,rfl,S1⟩:=hrel;have F7:=F6.keep S1.bel hlo;obtain ⟨b,a0,a1,r0,r1,z0,z1,hz⟩:=id F7;have hzw:w.heap.size<wr.heap.size:=by omega
  by_cases hlt:k<D
  ·have d1:decide ((k:Int)<(D:Int))=true:=by simp;omega
   have d1':decide (k<D)=true:=by simp;omega
   have hki:(k:Int)<(D:Int):=by omega
   obtain ⟨b9,off,rfl,hbl,hc⟩:=HX.out wr b k hlt;have xz:=HZ.out k;generalize hX:Tr.xa a.dicts k=X at *;have HXX:Hid (Tr.xa a.dicts k=X):=hX;clear hX;go_wp2_with fail
   have S2:=S1.below ((bR _ _).alloc (nl _) (.cells #[.int .i64 (k:Int)] 3 (0,0)));have B2:=(F6.keep S2.bel hlo).b;have hcb:(wr.alloc (.cells #[.int .i64 (k:Int)] 3 (0,0))).cell? ⟨wr.heap.size,0,none⟩=some (.int .i64 (k:Int)):=cN _ _ _ 0;refine (CU.out _ _ k B2 hcb (by omega)).mono ?_;rintro e w2 ⟨rfl,G2⟩;have S3:=S2.below G2;have hcb2:=(G2.cell (p:=⟨wr.heap.size,0,none⟩) (by simp)).trans hcb;have hlv1:v1.ownBlock ≠ some wr.heap.size:=fun e=>by have:=(S1.o1.lt _ e).2;omega
   have hlv2:(Value.slice p2 N q2).ownBlock ≠ some wr.heap.size:=fun e=>by have:=(S1.o2.lt _ e).2;omega
   have hCc:wr.heap.size ≠ C:=by have:=S1.hb;omega
   clear S1 S2 G2 hcb B2 F7 b a0 a1 r0 r1 z0 z1 hz hc hbl;generalize wr.heap.size=c at *
   cases hu:Ar.used a ((k+1:Nat):Int) with
   | false =>
    obtain ⟨e1,e2⟩:=Ar.Zmv hu;have HE1:Hid (Ar.cpD a (k+1)=Ar.cpD a k):=e1;have HE2:Hid (a.files.map (Ar.cpF a (k+1))=a.files.map (Ar.cpF a k)):=e2;clear e1 e2 hu;go_wp2_with fail
    go_roundw
    case rel=>exact ⟨k+1,v1,by omega,by go_num,by rw [HE1.out,HE2.out];exact S3⟩
    case measure=>simp [intOf];omega
   | true =>
    have HE1:Hid (Ar.cpD a (k+1)=Ar.cpD a k++[X]):=by show _=_;rw [Ar.ZnN hu,HXX.out]
    clear hu
    obtain ⟨L,hL⟩:∃ L,(Ar.cpD a k).length=L:=⟨_,rfl⟩
    have hL4:L<=4:=by
     have e1:=Ar.Zcn a k;have e2:=Ar.ZjW a k;omega
    have HL1:Hid ((Ar.cpD a (k+1)).length=L+1):=by show _=_;rw [HE1.out,List.length_append,hL];rfl
    have HM1:Hid ((Ar.cpD a (k+1)).map Value.string=(Ar.cpD a k).map Value.string++[.string X]):=by show _=_;rw [HE1.out,List.map_append];rfl
    have HY:Hid (∀ m,m<N->(Ar.fa a.files m).dict=((k+1:Nat):Int)->fcs (Ar.cpI a k (m+1))=fcs ((Ar.cpI a k m).take m++{ Ar.fa (Ar.cpI a k m) m with dict:=(L:Int)+1 } :: (Ar.cpI a k m).drop (m+1))):=fun m h1 h2=>by
     have e:((Ar.rkK a (k+1):Nat):Int)=(L:Int)+1:=by rw [<-Ar.Zcn,HL1.out];rfl
     rw [Ar.ZnK (by rw [HNN.out];exact h1) h2,e]
    have HNo:Hid (∀ m,m<N->(Ar.fa a.files m).dict ≠ ((k+1:Nat):Int)->fcs (Ar.cpI a k (m+1))=fcs (Ar.cpI a k m)):=fun m h1 h2=>by rw [Ar.Zre (by rw [HNN.out];exact h1) h2]
    have HIl:Hid (∀ m,m<N->(Ar.cpI a k m).length=N):=fun m h1=>by rw [Ar.Znk (by rw [HNN.out];omega),HNN.out]
    rw [hL,HI0.out] at S3;clear hL HE1 HXX;have c0:=S3.c0;have f0:=S3.f0;have hLi:(L:Int)<=4:=by omega
    generalize (Ar.cpD a k).map Value.string=XS at *;go_wp2_with fail
    go_region_law (first
     | (refine zsL _ rfl _ _ 22 rfl lo 9 i0 (.string ⟨#[]⟩) 1 16 U22 hi hz0 hz1 hz2 rfl (by decide) v1 _ _ rfl (S4.o1.alloc _) ⟨w4.heap.size,0,none⟩ 1 1 [.string X] rfl rfl (cell_one_new _ _ _) (by simp [Value.oneCell']) (by decide) (by unfold maxLen;omega) (by omega) (by simp;omega) _ rfl ?_;intro g cp w5 hown5 hgrow5 hat5 hlt5;obtain ⟨⟨⟨qq1,qq2⟩,S5⟩,K5⟩:=S4.put1 hgrow5 hown5 hat5;have hcb5:=K5 c _ hcb4 hCc hlv1;clear hgrow5 hown5 hat5 hlt5 K5)
     | (go_simp;go_at_call 69;refine (ZP _ _ xz).mono ?_;rintro e w4 ⟨rfl,G4⟩;have G4':=(Below.trans ((bR w2.heap.size w2).drew) G4);have S4:=S3.below G4';have c2:=S4.c0;have c3:∀ o,(w4.alloc o).cell? ⟨C,0,none⟩=some v1:=(fun o=>(cA _ _ _ (cL w4 _ c2)).trans c2);have hb4:=S4.hb;have hC4:=S4.hC;have hcb4:=(G4'.cell (p:=⟨c,0,none⟩) (cL w2 _ hcb2)).trans hcb2))
    all_goals
     clear S4 c2 c3 hb4 hC4 hcb4 G4 G4' S3 hcb2 c0 f0 qq1 qq2;generalize (w5.setCell ⟨C,0,none⟩ (.slice (some ⟨g,0,none⟩) (L+1) cp))=wq at *;have Fq:=F6.keep S5.bel hlo;have a1:=Fq.a1;clear Fq;go_wp2_with fail
     clear a1;go_loopw [44] (fun i wr=>∃ m:Nat,m<=N/\i=.int .i64 m/\CpS w6 wr C lo (.slice (some ⟨g,0,none⟩) (L+1) cp) (.slice p2 N q2) (L+1) N (XS++[.string X]) (fcs (Ar.cpI a k m))/\wr.cell? ⟨c,0,none⟩=some (.int .i64 (k:Int))) (fun i _=>N - (intOf i).toNat)
     case atStart=>exact ⟨0,by omega,rfl,S5,hcb5⟩
     case round =>
      clear S5 hcb5;obtain ⟨m,hm2,rfl,S6,hcb6⟩:=hrel;have B6:=(F6.keep S6.bel hlo).b;by_cases hlt2:m<N
      ·have d2:decide ((m:Int)<(N:Int))=true:=by simp;omega
       have d2':decide (m<N)=true:=by simp;omega
       have hmi:(m:Int)<(N:Int):=by omega
       obtain ⟨bf,of,rfl,hbl,hcf⟩:=HFl.out _ B6 m hlt2;obtain ⟨x0,x1,x2,x3,x4⟩:=hcf;have CK:=fun w' h9=>ZgJ (Ar.fa a.files m) c k w' h9 (by omega)
       unfold fv at CK;have hIl:=HIl.out m hlt2;by_cases hd:(Ar.fa a.files m).dict=((k+1:Nat):Int)
       ·have e1:=HY.out m hlt2 hd;have HE:Hid (fcs (Ar.cpI a k (m+1))=fcs ((Ar.cpI a k m).take m++{ Ar.fa (Ar.cpI a k m) m with dict:=(L:Int)+1 } :: (Ar.cpI a k m).drop (m+1))):=e1;rw [decide_eq_true hd] at CK;clear e1 hd;rcases S6.o2.2 with ⟨_,h0⟩ | ⟨g2,cap2,cur2,e,_⟩
        ·omega
        simp only [Value.slice.injEq] at e;obtain ⟨rfl,_,rfl⟩:=e;generalize (Ar.fa a.files m).name=y0 at *;generalize (Ar.fa a.files m).dict=y1 at *;generalize (Ar.fa a.files m).size=y2 at *;generalize (Ar.fa a.files m).sum=y3 at *;generalize (Ar.fa a.files m).blk=y4 at *;go_wp2_with fail
        have hcb7:=fun o=>(cA _ o _ (cL _ _ hcb6)).trans hcb6
        refine (CK _ (hcb7 _)).mono ?_;rintro e w9 ⟨rfl,G9⟩;have S7:=(S6.below ((bR _ _).alloc (nl _) _)).below G9;have hcb8:=(G9.cell (p:=⟨c,0,none⟩) (cL _ _ (hcb7 _))).trans (hcb7 _);have hIl':Hid ((Ar.cpI a k m).length=N):=hIl;rw [<-hIl] at S7;obtain ⟨S8,t1,t2⟩:=CpS.set1 ((L:Int)+1) S7 (i:=m) (by omega);have c0:=S7.c0;have c1:=S7.c1;rw [hIl] at c1 S8;have hcb9:(w9.setCell ⟨g2,m*5+1,none⟩ (.int .i64 ((L:Int)+1))).cell? ⟨c,0,none⟩=some (.int .i64 (k:Int)):=Ze (Zb w9 ⟨g2,m*5+1,none⟩ _) hcb8 (fun e=>hlv2 (show some g2=some c from e.symm));clear S6 S7 hcb6 hcb7 hcb8 G9 hIl x0 x1 x2 x3 x4 CK;go_wp2_with fail
        go_roundw
        case rel=>exact ⟨m+1,by omega,by go_num,by rw [HE.out];exact S8,hcb9⟩
        case measure=>simp [intOf];omega
       ·have e1:=HNo.out m hlt2 hd;have HE:Hid (fcs (Ar.cpI a k (m+1))=fcs (Ar.cpI a k m)):=e1;rw [decide_eq_false hd] at CK;clear e1 hd;generalize (Ar.fa a.files m).name=y0 at *;generalize (Ar.fa a.files m).dict=y1 at *;generalize (Ar.fa a.files m).size=y2 at *;generalize (Ar.fa a.files m).sum=y3 at *;generalize (Ar.fa a.files m).blk=y4 at *;go_wp2_with fail
        have hcb7:=fun o=>(cA _ o _ (cL _ _ hcb6)).trans hcb6
        refine (CK _ (hcb7 _)).mono ?_;rintro e w9 ⟨rfl,G9⟩;have S7:=(S6.below ((bR _ _).alloc (nl _) _)).below G9;have hcb8:=(G9.cell (p:=⟨c,0,none⟩) (cL _ _ (hcb7 _))).trans (hcb7 _);clear S6 hcb6 hcb7 G9 hIl x0 x1 x2 x3 x4 CK;go_wp2_with fail
        go_roundw
        case rel=>exact ⟨m+1,by omega,by go_num,by rw [HE.out];exact S7,hcb8⟩
        case measure=>simp [intOf];omega
      ·obtain rfl:m=N:=by omega
       have d2:decide ((m:Int)<(m:Int))=false:=by simp
       rw [HIN.out,<-HM1.out,<-HL1.out] at S6;clear hcb6 B6;go_wp2_with fail
       go_roundw
       case rel=>exact ⟨k+1,_,by omega,by go_num,S6⟩
       case measure=>simp [intOf];omega
  ·obtain rfl:k=D:=by omega
   have d1:decide ((k:Int)<(k:Int))=false:=by simp
   obtain ⟨Bz,Oz1,Oz2,Rz0,Rz1⟩:=Zbb b S1.o1 S1.o2 hlo r0 r1;obtain ⟨pp,qq,rfl,_⟩:=Zk S1.o1;have ne9:=S1.ne;have c0:=S1.c0;have c1:=S1.c1;have hC2:=S1.hb;clear S1;go_wp2_with fail
   generalize (wr.setCell ⟨w.heap.size+1,0,none⟩ (.slice pp (Ar.cpD a k).length qq)).setCell ⟨w.heap.size+1,1,none⟩ (.slice p2 N q2)=wz at *;exact bodyPost_ret (v:=.tuple #[.agg #[.slice pp (Ar.cpD a k).length qq,.slice p2 N q2],.int .i64 0]) (by simp [results,Tryz.results26,go_sem,Rz0,Rz1]) rfl (hQ.out _ _ _ Oz1 Oz2 ne9 Bz)
theorem ZeN (ad af:Option Addr) (cd cf:Nat) (a:Ar.A) (w:World) (h:ArV w ad af a) (hs:SaneA a) :
 Calls Tryz.prog 26 #[av ad cd af cf a] w fun e w'=>ArSaid w (Ar.cmpA a) (Ar.chk a) e w':=by
 by_cases hc:Ar.chk a=0
 ·rw [Ar.Znc hc,hc];exact ZlP ad af cd cf a w h hs hc
 ·have e:Ar.cmpA a=Ar.az:=by unfold Ar.cmpA;rw [if_neg hc]
  rw [e];exact Zia ad af cd cf a w h hs hc
namespace Ar
def reF (a:A) (size:Int) (f:F):F:=pk (retD a size) f.name (tx a.dicts f) (a.dicts.length+1:Nat)
def reI (a:A) (size:Int) (m:Nat):List F:=(a.files.take m).map (reF a size)++a.files.drop m
theorem ZrM {a:A} {size:Int} {m:Nat} (h:m<=a.files.length):(reI a size m).length=a.files.length:=by
 unfold reI;rw [List.length_append,List.length_map,List.length_take,List.length_drop];omega
theorem Zpv (a:A) (size:Int):reI a size 0=a.files:=by simp [reI]
theorem Zsm (a:A) (size:Int):reI a size a.files.length=a.files.map (reF a size):=by simp [reI]
theorem Zrw {a:A} {size:Int} {m:Nat} (h:m<a.files.length):fa (reI a size m) m=fa a.files m/\reI a size (m+1)=(reI a size m).take m++reF a size (fa a.files m) :: (reI a size m).drop (m+1):=by
 have hl:((a.files.take m).map (reF a size)).length=m:=by rw [List.length_map,List.length_take];omega
 unfold reI;rw [Zmk h,ZQ h,List.map_append];generalize (a.files.take m).map (reF a size)=P at *;generalize fa a.files m=f at *;subst hl;constructor
 ·simp [fa]
 ·simp
theorem Zgn {a:A} (h:chk a=0):Tr.many (txs a)=false:=by
 obtain ⟨h1,h2⟩:=ZcZ h;unfold Tr.many;rw [Bool.or_eq_false_iff];refine ⟨dF (by omega),?_⟩
 have:∀ k,Tr.lgK (txs a) k=none:=by
  intro k
  induction k with
  | zero=>rfl
  | succ k ih =>
   rw [Tr.lgK,ih];simp only;rw [if_neg];by_cases hk:k<(txs a).length
   ·have:Tr.xa (txs a) k=(txs a)[k]:=by simp [Tr.xa,hk]
    rw [this];have:=h2 _ (gM hk);omega
   ·have:Tr.xa (txs a) k=⟨#[]⟩:=by simp [Tr.xa,hk]
    rw [this];show ¬ 512<0;omega
 rw [this];rfl
end Ar
theorem Zrl {w:World} {lo g cap i:Nat} {fs:List Ar.F} (h:w.ownsRow lo 46 5 (.slice (some ⟨g,0,none⟩) fs.length cap) fs.length (fcs fs)) (hi:i<fs.length):(∀ j,j<5->w.cell? ⟨g,i*5+j,none⟩=(fc (Ar.fa fs i))[j]?)/\∀ o,w.frozen? ⟨g,o,none⟩=false:=by
 have hcl:=Zah fs;rcases h.2 with ⟨h1,h2⟩ | ⟨g',cap',cur,h1,h2,h3,h4,h5,h6,h7⟩
 ·omega
 simp only [Value.slice.injEq,Option.some.injEq,Addr.mk.injEq] at h1;obtain ⟨⟨rfl,_⟩,_,rfl⟩:=h1;refine ⟨fun j hj=>?_,ZeF h3⟩;rw [ZhR h3,<-Array.getElem?_toList];have e1:cur.toList[i*5+j]?=(fcs fs)[i*5+j]?:=by rw [<-h7,List.getElem?_take,if_pos (by omega)]
 have e2:fs=fs.take i++Ar.fa fs i :: fs.drop (i+1):=by
  have e3:Ar.fa fs i=fs[i]:=by simp [Ar.fa,hi]
  rw [e3,<-List.drop_eq_getElem_cons hi,List.take_append_drop]
 rw [e1,e2,Zz,List.getElem?_append_right (by rw [Zah,List.length_take];omega),Zah,List.length_take,show i*5+j - min i fs.length*5=j by omega,fcs,List.getElem?_append_left (by simp;omega),<-e2];rfl
theorem CpS.set5 {w0 wr:World} {C lo g cap n1 i:Nat} {v1:Value} {xs1:List Value} {fs:List Ar.F} (f:Ar.F) (h:CpS w0 wr C lo v1 (.slice (some ⟨g,0,none⟩) fs.length cap) n1 fs.length xs1 (fcs fs)) (hi:i<fs.length) :
 CpS w0 (w5s wr g (i*5) (.string f.name) (.int .i64 f.dict) (.int .i64 f.size) (.int .i64 f.sum) (.string f.blk)) C lo v1 (.slice (some ⟨g,0,none⟩) fs.length cap) n1 fs.length xs1 (fcs (fs.take i++f :: fs.drop (i+1))):=by
 have r1:=Zgu f h.o2 hi;have hsg:=ZcT wr g (i*5) (.string f.name) (.int .i64 f.dict) (.int .i64 f.size) (.int .i64 f.sum) (.string f.blk);have hgC:some C ≠ some g:=fun e=>h.a2 (show some g=some C from e.symm)
 have hg:=(h.o2.lt g rfl).1;refine ⟨Ze hsg h.c0 hgC,Ze hsg h.c1 hgC,Zr hsg h.hb h.f0 hgC,Zr hsg h.hb h.f1 hgC,h.o1.kept hsg ?_,r1,h.ne,h.a1,h.a2,h.hC,nT h.hb hsg.size,ZfJ h.bel g (i*5) _ _ _ _ _ hg⟩
 cases hv:v1.ownBlock with
 | none=>exact .inl rfl
 | some j=>exact .inr (fun e=>h.ne j hv e.symm)
namespace Im
def xz:Act:=⟨0,0,⟨#[]⟩,⟨#[]⟩⟩
def xa (l:List Act) (i:Nat):Act:=l.getD i xz
theorem ZcU {l:List Act} {i:Nat} (h:i<l.length):xa l i=l[i]:=by simp [xa,h]
end Im
def xv (x:Im.Act):Value:=.agg #[.int .i64 x.kind,.int .i64 x.n,.string x.name,.string x.text]
def xc (x:Im.Act):List Value:=[.int .i64 x.kind,.int .i64 x.n,.string x.name,.string x.text]
def xcs:List Im.Act->List Value
 | []=>[]
 | x :: l=>[.int .i64 x.kind,.int .i64 x.n,.string x.name,.string x.text]++xcs l
theorem Zdo:∀ l m:List Im.Act,xcs (l++m)=xcs l++xcs m
 | [],_=>rfl
 | x :: l,m=>by rw [List.cons_append,xcs,xcs,Zdo l m,List.append_assoc]
theorem Zox:∀ (l:List Im.Act) (i r:Nat),i<l.length->r<4->(xcs l)[i*4+r]?=(xc (Im.xa l i))[r]?
 | x :: l,0,r,_,hr=>by
  rw [xcs,List.getElem?_append_left (by simp;omega)];simp only [Nat.zero_mul,Nat.zero_add];rfl
 | x :: l,i+1,r,h,hr=>by
  have ih:=Zox l i r (by simpa using h) hr;rw [xcs,List.getElem?_append_right (by simp;omega)];have e:(i+1)*4+r - ([.int .i64 x.kind,.int .i64 x.n,.string x.name,.string x.text]:List Value).length=i*4+r:=by simp;omega
  rw [e,ih];rfl
theorem one4 (a b:ByteArray) (x y:Int):∀ u ∈ ([.int .i64 x,.int .i64 y,.string a,.string b]:List Value),u.oneCell'=true:=by
 intro u hu;simp at hu;rcases hu with rfl | rfl | rfl | rfl <;> rfl
theorem ZuP (w:World) (p q r s:Value) (T:TypeId):∀ j u,[p,q,r,s][j]?=some u->(w.alloc (.cells #[p,q,r,s] T)).cell? ((⟨w.heap.size,0,none⟩:Addr).add j)=some u:=by
 intro j u hj;rw [ZaZ,World.cell?_alloc_mark];simpa using hj
structure XC (w:World) (b o:Nat) (x:Im.Act):Prop where
 c0:w.cell? ⟨b,o,none⟩=some (.int .i64 x.kind)
 c1:w.cell? ⟨b,o+1,none⟩=some (.int .i64 x.n)
 c2:w.cell? ⟨b,o+2,none⟩=some (.string x.name)
 c3:w.cell? ⟨b,o+3,none⟩=some (.string x.text)
theorem XC.below {w w':World} {b o:Nat} {x:Im.Act} (h:XC w b o x) (G:Below w.heap.size w w'):XC w' b o x:=by
 have hl:b<w.heap.size:=cL w _ h.c0;exact ⟨(G.cell (p:=⟨b,o,none⟩) hl).trans h.c0,(G.cell (p:=⟨b,o+1,none⟩) hl).trans h.c1,(G.cell (p:=⟨b,o+2,none⟩) hl).trans h.c2,(G.cell (p:=⟨b,o+3,none⟩) hl).trans h.c3⟩
def XSl (w:World) (ad:Option Addr) (l:List Im.Act):Prop:=l=[]\/∃ b off,ad=some ⟨b,off,none⟩/\b<w.heap.size/\∀ i,i<l.length->XC w b (off+i*4) (Im.xa l i)
theorem XSl.below {w w':World} {ad:Option Addr} {l:List Im.Act} (h:XSl w ad l) (G:Below w.heap.size w w'):XSl w' ad l:=by
 rcases h with h | ⟨b,off,h1,h2,h3⟩
 ·exact .inl h
 ·exact .inr ⟨b,off,h1,nT h2 G.size,fun i hi=>(h3 i hi).below G⟩
theorem XSl.at {w:World} {ad:Option Addr} {l:List Im.Act} (h:XSl w ad l) {i:Nat} (hi:i<l.length):∃ b off,ad=some ⟨b,off,none⟩/\b<w.heap.size/\XC w b (off+i*4) (Im.xa l i):=by
 rcases h with rfl | ⟨b,off,h1,h2,h3⟩
 ·simp at hi
 ·exact ⟨b,off,h1,h2,h3 i hi⟩
theorem Zqn {w:World} {lo:Nat} {v:Value} {l:List Im.Act} (h:w.ownsRow lo 54 4 v l.length (xcs l)):∃ ad cap,v=.slice ad l.length cap/\XSl w ad l:=by
 rcases h.2 with ⟨h1,h2⟩ | ⟨g,cap,cur,h1,h2,h3,h4,h5,h6,h7⟩
 ·exact ⟨none,0,by rw [h1,h2],.inl (lZ.1 h2)⟩
 ·refine ⟨_,cap,h1,.inr ⟨g,0,rfl,(aG.1 h3).1,fun i hi=>?_⟩⟩;have hc:=h.cells (g:=g) (by rw [h1];rfl)
  have at4:∀ r u,r<4->(xc (Im.xa l i))[r]?=some u->w.cell? ⟨g,i*4+r,none⟩=some u:=fun r u hr hu=>by
   have:=hc (i*4+r) u (by rw [Zox l i r hi hr];exact hu)
   rwa [ZaZ] at this
  rw [Nat.zero_add];exact ⟨at4 0 _ (by omega) rfl,at4 1 _ (by omega) rfl,at4 2 _ (by omega) rfl,at4 3 _ (by omega) rfl⟩
structure XB (w:World) (b:Nat) (k n:Int) (name text:ByteArray):Prop where
 c0:w.cell? ⟨b,0,none⟩=some (.int .i64 k)
 c1:w.cell? ⟨b,1,none⟩=some (.int .i64 n)
 c2:w.cell? ⟨b,2,none⟩=some (.string name)
 c3:w.cell? ⟨b,3,none⟩=some (.string text)
 f:∀ i,w.frozen? ⟨b,i,none⟩=false
theorem XB.lt {w:World} {b:Nat} {k n:Int} {s t:ByteArray} (h:XB w b k n s t):b<w.heap.size:=World.block_lt_of_cell? w _ h.c0
theorem XB.block {w w':World} {b:Nat} {k n:Int} {s t:ByteArray} (h:XB w b k n s t) (hb:w'.heap[b]?=w.heap[b]?):XB w' b k n s t :=
 ⟨(cB (w:=w) (a:=⟨b,0,none⟩) hb).trans h.c0,(cB (w:=w) (a:=⟨b,1,none⟩) hb).trans h.c1,(cB (w:=w) (a:=⟨b,2,none⟩) hb).trans h.c2,(cB (w:=w) (a:=⟨b,3,none⟩) hb).trans h.c3,fun i=>(fB (w:=w) (a:=⟨b,i,none⟩) hb).trans (h.f i)⟩
theorem XB.next {w w':World} {b:Nat} {k n:Int} {s t:ByteArray} (h:XB w b k n s t) (G:Below w.heap.size w w'):XB w' b k n s t:=h.block (G.block b h.lt)
theorem XB.on {w w':World} {b p:Nat} {k n:Int} {s t:ByteArray} (h:XB w b k n s t) (G:On p w w') (hne:b ≠ p):XB w' b k n s t:=h.block (G.block b h.lt (by simp;omega))
theorem XB.far {w:World} {b p o:Nat} {k n:Int} {s t:ByteArray} (h:XB w b k n s t) (hne:b ≠ p) (v:Value):XB (w.setCell ⟨p,o,none⟩ v) b k n s t:=h.block (Below.heap_setCell _ _ _ _ (by simp;omega))
theorem XB.new (w:World) (T:TypeId) (k n:Int) (s t:ByteArray):XB (w.alloc (.cells #[.int .i64 k,.int .i64 n,.string s,.string t] T (0,0))) w.heap.size k n s t :=
 ⟨cN _ _ _ 0,cN _ _ _ 1,cN _ _ _ 2,cN _ _ _ 3,fun _=>fN _ _ _ _ rfl⟩
theorem XB.s0 {w:World} {b:Nat} {k n:Int} {s t:ByteArray} (h:XB w b k n s t) (k':Int):XB (w.setCell ⟨b,0,none⟩ (.int .i64 k')) b k' n s t :=
 ⟨cS _ _ _ h.c0,(cO _ _ _ _ (by simp)).trans h.c1,(cO _ _ _ _ (by simp)).trans h.c2,(cO _ _ _ _ (by simp)).trans h.c3,fun i=>by rw [World.frozen?_setCell];exact h.f i⟩
theorem XB.s1 {w:World} {b:Nat} {k n:Int} {s t:ByteArray} (h:XB w b k n s t) (k':Int):XB (w.setCell ⟨b,1,none⟩ (.int .i64 k')) b k k' s t :=
 ⟨(cO _ _ _ _ (by simp)).trans h.c0,cS _ _ _ h.c1,(cO _ _ _ _ (by simp)).trans h.c2,(cO _ _ _ _ (by simp)).trans h.c3,fun i=>by rw [World.frozen?_setCell];exact h.f i⟩
theorem XB.s2 {w:World} {b:Nat} {k n:Int} {s t:ByteArray} (h:XB w b k n s t) (k':ByteArray):XB (w.setCell ⟨b,2,none⟩ (.string k')) b k n k' t :=
 ⟨(cO _ _ _ _ (by simp)).trans h.c0,(cO _ _ _ _ (by simp)).trans h.c1,cS _ _ _ h.c2,(cO _ _ _ _ (by simp)).trans h.c3,fun i=>by rw [World.frozen?_setCell];exact h.f i⟩
theorem XB.s3 {w:World} {b:Nat} {k n:Int} {s t:ByteArray} (h:XB w b k n s t) (k':ByteArray):XB (w.setCell ⟨b,3,none⟩ (.string k')) b k n s k' :=
 ⟨(cO _ _ _ _ (by simp)).trans h.c0,(cO _ _ _ _ (by simp)).trans h.c1,(cO _ _ _ _ (by simp)).trans h.c2,cS _ _ _ h.c3,fun i=>by rw [World.frozen?_setCell];exact h.f i⟩
theorem XB.set {w:World} {b:Nat} {k n:Int} {s t:ByteArray} (h:XB w b k n s t) (k' n':Int) (s' t':ByteArray):XB ((((w.setCell ⟨b,0,none⟩ (.int .i64 k')).setCell ⟨b,1,none⟩ (.int .i64 n')).setCell ⟨b,2,none⟩ (.string s')).setCell ⟨b,3,none⟩ (.string t')) b k' n' s' t':=(((h.s0 k').s1 n').s2 s').s3 t'
theorem Zav {B:Nat} {w w':World} (h:Below B w w') {b:Nat} (hb:B<=b) (v0 v1 v2 v3:Value):Below B w ((((w'.setCell ⟨b,0,none⟩ v0).setCell ⟨b,1,none⟩ v1).setCell ⟨b,2,none⟩ v2).setCell ⟨b,3,none⟩ v3):=(((h.setCell hb _).setCell hb _).setCell hb _).setCell hb _
theorem ArOwn.hand {lo:Nat} {w:World} {v1 v2:Value} {a:Ar.A} (h:ArOwn lo w v1 v2 a):∃ ad cd af cf,(.agg #[v1,v2]:Value)=av ad cd af cf a/\ArV w ad af a:=by
 obtain ⟨ad,cd,rfl,_,hfar⟩:=Zfb h.o1;have o2:=h.o2;rcases h.o2.2 with ⟨rfl,h2⟩ | ⟨g,cap,cur,rfl,h2,h3,_⟩
 ·have e:a.files=[]:=lZ.1 h2;exact ⟨ad,cd,none,0,by unfold av;rw [h2],TxFar.sl hfar,.inl e⟩
 ·refine ⟨ad,cd,some ⟨g,0,none⟩,cap,rfl,TxFar.sl hfar,.inr ⟨g,0,rfl,aG.1 h3 |>.1,fun i hi=>?_⟩⟩;obtain ⟨hat,_⟩:=Zrl o2 hi;rw [Nat.zero_add];exact ⟨hat 0 (by omega),hat 1 (by omega),hat 2 (by omega),hat 3 (by omega),hat 4 (by omega)⟩
theorem Zdp {a:Ar.A} (h1:a.dicts.length<=8796093022208) (h2:a.files.length<=8796093022208) (h3:∀ d ∈ a.dicts,d.size<=140737488355328) (h4:∀ f ∈ a.files,f.name.size<=140737488355328/\f.blk.size<=140737488355328):SaneA a:=by
 have hf:∀ i,(Ar.fa a.files i).name.size<=140737488355328/\(Ar.fa a.files i).blk.size<=140737488355328:=fun i=>by
  by_cases hi:i<a.files.length
  ·rw [Ar.ZaJ hi];exact h4 _ (gM hi)
  ·have e:Ar.fa a.files i=Ar.fz:=by simp [Ar.fa,hi]
   rw [e];exact ⟨Nat.zero_le _,Nat.zero_le _⟩
 refine ⟨h1,h2,fun i=>?_,fun i=>(hf i).1,fun i=>(hf i).2⟩;by_cases hi:i<a.dicts.length
 ·have e:Tr.xa a.dicts i=a.dicts[i]:=by simp [Tr.xa,hi]
  rw [e];exact h3 _ (gM hi)
 ·have e:Tr.xa a.dicts i=⟨#[]⟩:=by simp [Tr.xa,hi]
  rw [e];exact Nat.zero_le _
theorem SaneA.mem {a:Ar.A} (h:SaneA a):(∀ d ∈ a.dicts,d.size<=140737488355328)/\∀ f ∈ a.files,f.name.size<=140737488355328/\f.blk.size<=140737488355328:=by
 constructor
 ·intro d hd;obtain ⟨i,hi,rfl⟩:=List.getElem_of_mem hd;have:=h.ds i;simpa [Tr.xa,hi] using this
 ·intro f hf;obtain ⟨i,hi,rfl⟩:=List.getElem_of_mem hf;have h1:=h.nm i;have h2:=h.bk i;rw [Ar.ZaJ hi] at h1 h2;exact ⟨h1,h2⟩
theorem Zdu:SaneA Ar.az:=Zdp (by decide) (by decide) (fun d hd=>by cases hd) (fun f hf=>by cases hf)
theorem Zhx {a:Ar.A} {name text:ByteArray} {dict:Int} (h:Ar.putE a name text dict=0):Ar.chk a=0/\Ar.isNm name=true/\Ar.has a.dicts dict=true/\text.size<=512:=by
 unfold Ar.putE at h;by_cases hc:Ar.chk a=0
 ·rw [if_neg (fun h9=>h9 hc)] at h
  cases hm:Ar.isNm name with
  | false=>rw [if_pos hm] at h;cases h
  | true =>
   rw [if_neg (by rw [hm];decide)] at h
   cases hd:Ar.has a.dicts dict with
   | false=>rw [if_pos hd] at h;cases h
   | true =>
    rw [if_neg (by rw [hd];decide)] at h;refine ⟨hc,rfl,rfl,?_⟩;by_cases hl:512<text.size
    ·rw [if_pos (.inl hl)] at h;cases h
    ·omega
 ·rw [if_pos hc] at h;exact absurd h hc
theorem SaneA.put {a:Ar.A} (h:SaneA a) {name text:ByteArray} {dict:Int} (hn:name.size<=140737488355328):SaneA (Ar.putA a name text dict):=by
 by_cases he:Ar.putE a name text dict=0
 ·obtain ⟨hc,_,_,ht⟩:=Zhx he;obtain ⟨m1,m2,m3⟩:=Ar.Zw.1 (Ar.Zd.1 hc).1;have e:Ar.putA a name text dict=⟨a.dicts,Ar.putF a.files (Ar.pk a.dicts name text dict)⟩:=by unfold Ar.putA;rw [if_pos he]
  rw [e]
  have hb:(Ar.pk a.dicts name text dict).blk.size<=513:=by
   have:=(Bk.ZiF (Ar.ZaM (Ar.Zd.1 hc).1 dict) ht).2.2;show (Bk.pak (Ar.dct a.dicts dict) text).1.size<=513;omega
  have hp:=Ar.ZbL a.files name;refine Zdp (by show a.dicts.length<=_;omega) ?_ h.mem.1 (fun f hf=>?_)
  ·show (Ar.putF a.files (Ar.pk a.dicts name text dict)).length<=_;unfold Ar.putF;rw [List.length_append,List.length_cons,List.length_take,List.length_drop];omega
  ·have hf':f ∈ Ar.putF a.files (Ar.pk a.dicts name text dict):=hf;unfold Ar.putF at hf';rcases List.mem_append.1 hf' with hf' | hf'
   ·exact h.mem.2 f (List.mem_of_mem_take hf')
   ·rcases List.mem_cons.1 hf' with rfl | hf'
    ·exact ⟨hn,by omega⟩
    ·exact h.mem.2 f (List.mem_of_mem_drop hf')
 ·have e:Ar.putA a name text dict=Ar.az:=by unfold Ar.putA;rw [if_neg he]
  rw [e];exact Zdu
theorem SaneA.drop {a:Ar.A} (h:SaneA a) (name:ByteArray):SaneA (Ar.ZbB a name):=by
 unfold Ar.ZbB;split
 ·refine Zdp h.nd ?_ h.mem.1 (fun f hf=>?_)
  ·show (a.files.take _++a.files.drop _).length<=_;rw [List.length_append,List.length_take,List.length_drop];have:=h.nf;omega
  ·have hf':f ∈ a.files.take (Ar.pos a.files name)++a.files.drop (Ar.pos a.files name+1):=hf;rcases List.mem_append.1 hf' with hf' | hf'
   ·exact h.mem.2 f (List.mem_of_mem_take hf')
   ·exact h.mem.2 f (List.mem_of_mem_drop hf')
 ·exact Zdu
theorem SaneA.cmp {a:Ar.A} (h:SaneA a):SaneA (Ar.cmpA a):=by
 unfold Ar.cmpA;split
 ·refine Zdp ?_ (by show (a.files.map _).length<=_;rw [List.length_map];exact h.nf) (fun d hd=>h.mem.1 d (Ar.ZiT (nl _) hd)) (fun f hf=>?_)
  ·show (Ar.cpD a a.dicts.length).length<=_;rw [Ar.Zcn];exact nt (Ar.ZjW a _) h.nd
  ·obtain ⟨f',hf',rfl⟩:=List.mem_map.1 hf;rw [Ar.Zpl,(Ar.ZmR a _ f').2.2];exact h.mem.2 f' hf'
 ·exact Zdu
theorem SaneA.ret {a:Ar.A} (h:SaneA a) (size:Int):SaneA (Ar.retA a size):=by
 by_cases he:Ar.retE a size=0
 ·obtain ⟨hc,_,_,_⟩:=Ar.Zcv he;have hmr:=Ar.Zfw he;obtain ⟨r1,r2,r3⟩:=Ar.Zw.1 hmr;rw [Ar.ZiR he];refine Zdp (nt r1 (by decide)) (by show (a.files.map _).length<=_;rw [List.length_map];exact h.nf) (fun d hd=>nt (r3 d hd) (by decide)) (fun f hf=>?_);obtain ⟨f',hf',rfl⟩:=List.mem_map.1 hf;refine ⟨(h.mem.2 f' hf').1,?_⟩;have:=(Bk.ZiF (Ar.ZaM hmr (a.dicts.length+1:Nat)) (Ar.Zdq hc hf')).2.2;have ht:=Ar.Zdq hc hf';show (Bk.pak (Ar.dct (Ar.retD a size) (a.dicts.length+1:Nat)) (Ar.tx a.dicts f')).1.size<=_
  have e:(Bk.pak (Ar.dct (Ar.retD a size) (a.dicts.length+1:Nat)) (Ar.tx a.dicts f')).1.size<=513:=by
   have h9:(Bk.pak (Ar.dct (⟨Ar.retD a size,a.files⟩:Ar.A).dicts (a.dicts.length+1:Nat)) (Ar.tx a.dicts f')).1.size<=(Ar.tx a.dicts f').size+1:=this;exact nt h9 (by omega)
  omega
 ·have e:Ar.retA a size=Ar.az:=by unfold Ar.retA;rw [if_neg he]
  rw [e];exact Zdu
structure Bx (w:World) (b:Nat) (x y:Value):Prop where
 c0:w.cell? ⟨b,0,none⟩=some x
 c1:w.cell? ⟨b,1,none⟩=some y
 f0:w.frozen? ⟨b,0,none⟩=false
 f1:w.frozen? ⟨b,1,none⟩=false
 lt:b<w.heap.size
theorem Bx.next {w w':World} {b:Nat} {x y:Value} (h:Bx w b x y) (G:Below w.heap.size w w'):Bx w' b x y :=
 ⟨(G.cell (p:=⟨b,0,none⟩) h.lt).trans h.c0,(G.cell (p:=⟨b,1,none⟩) h.lt).trans h.c1,(G.frozen (p:=⟨b,0,none⟩) h.lt).trans h.f0,(G.frozen (p:=⟨b,1,none⟩) h.lt).trans h.f1,nT h.lt G.size⟩
theorem Bx.new (w:World) (x y:Value):Bx (w.alloc (.cells #[x,y] 25 (0,0))) w.heap.size x y :=
 ⟨cN _ _ _ 0,cN _ _ _ 1,fN _ _ _ _ rfl,fN _ _ _ _ rfl,by simp⟩
theorem Bx.set {w:World} {b:Nat} {x y u v:Value} (h:Bx w b x y):Bx ((w.setCell ⟨b,0,none⟩ u).setCell ⟨b,1,none⟩ v) b u v:=by
 refine ⟨?_,?_,?_,?_,?_⟩
 ·exact (cO _ _ _ _ (by intro e;have:=congrArg Addr.off e;simp at this)).trans (cS _ _ _ h.c0)
 ·exact cS _ _ _ ((cO _ _ _ _ (by intro e;have:=congrArg Addr.off e;simp at this)).trans h.c1)
 ·rw [World.frozen?_setCell,World.frozen?_setCell];exact h.f0
 ·rw [World.frozen?_setCell,World.frozen?_setCell];exact h.f1
 ·have:=h.lt;simp [World.setCell];omega
theorem Bx.far {w:World} {b c:Nat} {x y:Value} (h:Bx w b x y) (hne:b ≠ c) (u v:Value):Bx ((w.setCell ⟨c,0,none⟩ u).setCell ⟨c,1,none⟩ v) b x y:=by
 refine ⟨?_,?_,?_,?_,?_⟩
 ·exact (cO _ _ _ _ (by intro e;have:=congrArg Addr.block e;simp at this;omega)).trans ((cO _ _ _ _ (by intro e;have:=congrArg Addr.block e;simp at this;omega)).trans h.c0)
 ·exact (cO _ _ _ _ (by intro e;have:=congrArg Addr.block e;simp at this;omega)).trans ((cO _ _ _ _ (by intro e;have:=congrArg Addr.block e;simp at this;omega)).trans h.c1)
 ·rw [World.frozen?_setCell,World.frozen?_setCell];exact h.f0
 ·rw [World.frozen?_setCell,World.frozen?_setCell];exact h.f1
 ·have:=h.lt;simp [World.setCell];omega
theorem Zp {B:Nat} {w w':World} (h:Below B w w') {b:Nat} (hb:B<=b) (u v:Value):Below B w ((w'.setCell ⟨b,0,none⟩ u).setCell ⟨b,1,none⟩ v):=(h.setCell hb _).setCell hb _
theorem Za (w:World) (o:Obj):Below w.heap.size w (w.alloc o):=(Below.refl _ _).alloc (Nat.le_refl _) o
theorem ArOwn.set2 {lo:Nat} {w:World} {v1 v2:Value} {a:Ar.A} (h:ArOwn lo w v1 v2 a) {b:Nat} (hb:b<lo) (u v:Value):ArOwn lo ((w.setCell ⟨b,0,none⟩ u).setCell ⟨b,1,none⟩ v) v1 v2 a:=by
 have g1:=Zb w ⟨b,0,none⟩ u;have g2:=Zb (w.setCell ⟨b,0,none⟩ u) ⟨b,1,none⟩ v;exact ⟨(h.o1.kept g1 (.inr (Zat h.o1 hb).symm)).kept g2 (.inr (Zat h.o1 hb).symm),(h.o2.kept g1 (.inr (Zat h.o2 hb).symm)).kept g2 (.inr (Zat h.o2 hb).symm),h.ne⟩
theorem ArOwn.next {lo:Nat} {w w':World} {v1 v2:Value} {a:Ar.A} (h:ArOwn lo w v1 v2 a) (G:Below w.heap.size w w'):ArOwn lo w' v1 v2 a:=⟨Zh h.o1 G,Zh h.o2 G,h.ne⟩
theorem ZmY {w:World} {base base':Nat} {e:TypeId} {size:Nat} {v:Value} {n:Nat} {xs:List Value} (h:w.ownsRow base e size v n xs) (hb:base'<=base):w.ownsRow base' e size v n xs :=
 ⟨h.1,h.2.imp id (fun ⟨g,cap,cur,h1,h2,h3⟩=>⟨g,cap,cur,h1,nt hb h2,h3⟩)⟩
theorem ArOwn.low {lo lo':Nat} {w:World} {v1 v2:Value} {a:Ar.A} (h:ArOwn lo w v1 v2 a) (hl:lo'<=lo):ArOwn lo' w v1 v2 a:=⟨ZmY h.o1 hl,ZmY h.o2 hl,h.ne⟩
theorem ArOwn.slices {lo:Nat} {w:World} {v1 v2:Value} {a:Ar.A} (h:ArOwn lo w v1 v2 a):∃ ad cd af cf,v1=.slice ad a.dicts.length cd/\v2=.slice af a.files.length cf/\ArV w ad af a:=by
 obtain ⟨ad,cd,af,cf,he,hv⟩:=h.hand;unfold av at he;simp only [Value.agg.injEq,Array.mk.injEq,List.cons.injEq,and_true] at he;exact ⟨ad,cd,af,cf,he.1,he.2,hv⟩
theorem ArSaid.open {w:World} {a:Ar.A} {E:Int} {e:Ending} {w':World} (h:ArSaid w a E e w'):∃ ad cd af cf,e=.returned (.tuple #[.agg #[.slice ad a.dicts.length cd,.slice af a.files.length cf],.int .i64 E])/\ArV w' ad af a/\Below w.heap.size w w':=by
 obtain ⟨v1,v2,rfl,ho,hb⟩:=h;obtain ⟨ad,cd,af,cf,rfl,rfl,hv⟩:=ho.slices;exact ⟨ad,cd,af,cf,rfl,hv,hb⟩
theorem ArSaid.own {w:World} {a:Ar.A} {E:Int} {e:Ending} {w':World} (h:ArSaid w a E e w'):∃ ad cd af cf,e=.returned (.tuple #[.agg #[.slice ad a.dicts.length cd,.slice af a.files.length cf],.int .i64 E])/\ArOwn w.heap.size w' (.slice ad a.dicts.length cd) (.slice af a.files.length cf) a/\Below w.heap.size w w':=by
 obtain ⟨v1,v2,rfl,ho,hb⟩:=h;obtain ⟨ad,cd,af,cf,rfl,rfl,hv⟩:=ho.slices;exact ⟨ad,cd,af,cf,rfl,ho,hb⟩
theorem Zem (p q:Nat) (x:Int) (b:Bool) (w:World) (hc:w.cell? ⟨p,0,none⟩=some (.int .i64 x)) (hz:w.frozen? ⟨p,0,none⟩=false) (hc':w.cell? ⟨q,0,none⟩=some (.bool b)) (hz':w.frozen? ⟨q,0,none⟩=false) (hpq:p ≠ q) :
 CallsD Tryz.prog 113 #[.pointer (some ⟨p,0,none⟩),.pointer (some ⟨q,0,none⟩)] (.panicking PN) w fun e u' w' =>
  e=.returned (.tuple #[])/\u'=.panicking [{ v:=.iface 26 (.int .i64 1),recovered:=true }]/\w'=(w.setCell ⟨p,0,none⟩ (.int .i64 0)).setCell ⟨q,0,none⟩ (.bool false):=by
 unfold PN;refine callsD_of_wpS Tryz.func113 rfl fun c₀ cs hu=>?_
 apply wpS_seq;apply wpS_region;simp [wpOpsS,go_sem,recoverD,hu,Tryz.ntmps113,Exit.thenS];refine wpS_cond (t:=true) (by simp [Act.eval,Array.replicate]) ?_;simp only [if_true];apply wpS_region;have hne:(⟨p,0,none⟩:Addr) ≠ ⟨q,0,none⟩:=by intro e;exact hpq (congrArg Addr.block e)
 have h2:(w.setCell ⟨p,0,none⟩ (.int .i64 0)).cell? ⟨q,0,none⟩=some (.bool b):=(cO _ _ _ _ hne).trans hc';have h3:(w.setCell ⟨p,0,none⟩ (.int .i64 0)).frozen? ⟨q,0,none⟩=false:=by rw [World.frozen?_setCell];exact hz'
 simp [wpOpsS,go_sem,hc,hz,h2,h3,bodyPostS,results,Tryz.results113]
theorem ZkD (p q:Nat) (w:World) :
 CallsD Tryz.prog 113 #[.pointer (some ⟨p,0,none⟩),.pointer (some ⟨q,0,none⟩)] .returning w fun e u' w'=>e=.returned (.tuple #[])/\u'=.returning/\w'=w:=by
 refine callsD_of_wpS Tryz.func113 rfl fun c₀ cs hu=>?_
 apply wpS_seq;apply wpS_region;simp [wpOpsS,go_sem,recoverD,hu,Tryz.ntmps113,Exit.thenS];refine wpS_cond (t:=false) (by simp [Act.eval,Array.replicate]) ?_;simp only [Bool.false_eq_true,if_false];refine wpS_of_wp (wp_skip ?_)
 cases c₀
 simp_all [bodyPostS,results,Tryz.results113]
def Cl (w:World) (p:Nat) (v:Value):Prop:=w.cell? ⟨p,0,none⟩=some v/\w.frozen? ⟨p,0,none⟩=false
def W3 (s:ByteArray) (w:World):World:=((w.alloc (.cells #[.int .i64 0] 3 (0,0))).alloc (.cells #[.bool false] 4 (0,0))).alloc (.cells #[.string s] 143 (0,0))
theorem On.under {p lo:Nat} {w w':World} (h:On p w w') (hl:lo<=p) (hw:lo<=w.heap.size):Below lo w w':=⟨h.os,h.tape,h.output,h.size,fun k hk=>h.block k (by omega) (by simp;omega)⟩
theorem Bx.other {w:World} {b c:Nat} {x y:Value} (h:Bx w b x y) (hne:b ≠ c) (o:Nat) (u:Value):Bx (w.setCell ⟨c,o,none⟩ u) b x y :=
 ⟨(cO _ _ _ _ (by intro e;have:=congrArg Addr.block e;simp at this;omega)).trans h.c0,(cO _ _ _ _ (by intro e;have:=congrArg Addr.block e;simp at this;omega)).trans h.c1,by rw [World.frozen?_setCell];exact h.f0,by rw [World.frozen?_setCell];exact h.f1,by have:=h.lt;simpa [World.setCell] using this⟩
theorem Bx.on {w w':World} {b p:Nat} {x y:Value} (h:Bx w b x y) (g:On p w w') (hne:b ≠ p):Bx w' b x y:=by
 have hb:=g.block b h.lt (by simp;omega);exact ⟨(cB (w:=w) (a:=⟨b,0,none⟩) hb).trans h.c0,(cB (w:=w) (a:=⟨b,1,none⟩) hb).trans h.c1,(fB (w:=w) (a:=⟨b,0,none⟩) hb).trans h.f0,(fB (w:=w) (a:=⟨b,1,none⟩) hb).trans h.f1,nT h.lt g.size⟩
theorem ArOwn.put1 {lo:Nat} {w:World} {v1 v2:Value} {a:Ar.A} (h:ArOwn lo w v1 v2 a) {b:Nat} (hb:b<lo) (o:Nat) (u:Value):ArOwn lo (w.setCell ⟨b,o,none⟩ u) v1 v2 a:=by
 have g1:=Zb w ⟨b,o,none⟩ u;exact ⟨h.o1.kept g1 (.inr (Zat h.o1 hb).symm),h.o2.kept g1 (.inr (Zat h.o2 hb).symm),h.ne⟩
theorem Cl.on {w w':World} {b p:Nat} {x:Value} (h:Cl w b x) (g:On p w w') (hne:b ≠ p):Cl w' b x:=by
 have hb:=g.block b (cL w _ h.1) (by simp;omega);exact ⟨(cB (w:=w) (a:=⟨b,0,none⟩) hb).trans h.1,(fB (w:=w) (a:=⟨b,0,none⟩) hb).trans h.2⟩
theorem Cl.other {w:World} {b c:Nat} {x:Value} (h:Cl w b x) (hne:b ≠ c) (o:Nat) (u:Value):Cl (w.setCell ⟨c,o,none⟩ u) b x :=
 ⟨(cO _ _ _ _ (by intro e;have:=congrArg Addr.block e;simp at this;omega)).trans h.1,by rw [World.frozen?_setCell];exact h.2⟩
theorem ZqV (s:ByteArray) (u:World):Rdr (W3 s u) (u.heap.size+2) s/\Cl (W3 s u) u.heap.size (.int .i64 0)/\Cl (W3 s u) (u.heap.size+1) (.bool false)/\Below u.heap.size u (W3 s u)/\(W3 s u).heap.size=u.heap.size+3:=by
 have e1:(u.alloc (.cells #[.int .i64 0] 3 (0,0))).heap.size=u.heap.size+1:=by simp
 have e2:((u.alloc (.cells #[.int .i64 0] 3 (0,0))).alloc (.cells #[.bool false] 4 (0,0))).heap.size=u.heap.size+2:=by simp
 have g1:=Za (u.alloc (.cells #[.int .i64 0] 3 (0,0))) (.cells #[.bool false] 4 (0,0));have g2:=Za ((u.alloc (.cells #[.int .i64 0] 3 (0,0))).alloc (.cells #[.bool false] 4 (0,0))) (.cells #[.string s] 143 (0,0))
 have r:Rdr (W3 s u) (u.heap.size+2) s:=by
  rw [<-e2];exact ⟨cN _ _ _ 0,fN _ _ _ _ rfl⟩
 have k1:Cl (W3 s u) (u.heap.size+1) (.bool false):=by
  rw [<-e1];exact ⟨(g2.cell (p:=⟨_,0,none⟩) (by simp)).trans (cN _ _ _ 0),(g2.frozen (p:=⟨_,0,none⟩) (by simp)).trans (fN _ _ _ _ rfl)⟩
 have k0:Cl (W3 s u) u.heap.size (.int .i64 0):=⟨(g2.cell (p:=⟨_,0,none⟩) (by simp;omega)).trans ((g1.cell (p:=⟨_,0,none⟩) (by simp)).trans (cN _ _ _ 0)),(g2.frozen (p:=⟨_,0,none⟩) (by simp;omega)).trans ((g1.frozen (p:=⟨_,0,none⟩) (by simp)).trans (fN _ _ _ _ rfl))⟩
 exact ⟨r,k0,k1,bch (bch (Za _ _) g1 (nl _)) g2 (nl _),by unfold W3;simp⟩
theorem ZhI (cap:Value) (s:ByteArray) (w:World) (X:World->Prop)
 (C:Calls Tryz.prog 123 #[.pointer (some ⟨w.heap.size+2,0,none⟩),cap] (W3 s w) fun e w'=>e=.panicked PN/\(∃ x,Cl w' w.heap.size (.int .i64 x))/\(∃ x,Cl w' (w.heap.size+1) (.bool x))/\X w') :
 Calls Tryz.prog 74 #[.string s,.func (.func 123) #[] #[cap]] w fun e w'=>e=.returned (.tuple #[.int .i64 0,.bool false])/\∃ w0,X w0/\w'=(w0.setCell ⟨w.heap.size,0,none⟩ (.int .i64 0)).setCell ⟨w.heap.size+1,0,none⟩ (.bool false):=by
 have hmf:∀ (fn:Fn) (first cap:Array Value) (w:World),(Instr.makeFunc fn first cap).run Tryz.prog w=.ok (.func fn first cap) w:=fun _ _ _ _=>rfl
 unfold W3 at C;go_enter_defers Tryz.func74,Tryz.ntmps74
 go_wp2_with fail
 refine (Zbt _ _).mono ?_;rintro e w1 ⟨rfl,rfl⟩;go_wp2_with fail
 refine C.mono ?_;rintro e w2 ⟨rfl,⟨x,c0,z0⟩,⟨b,c1,z1⟩,hX⟩;go_wp2_with fail
 refine leaves_cons (f:=113) (args:=#[.pointer (some ⟨w.heap.size,0,none⟩),.pointer (some ⟨w.heap.size+1,0,none⟩)]) (by simp) (by simp [go_sem]) ?_;refine (Zem _ _ _ _ _ c0 z0 c1 z1 (by omega)).mono ?_;rintro e u' w3 ⟨rfl,rfl,rfl⟩;have k0:((w2.setCell ⟨w.heap.size,0,none⟩ (.int .i64 0)).setCell ⟨w.heap.size+1,0,none⟩ (.bool false)).cell? ⟨w.heap.size,0,none⟩=some (.int .i64 0):=(cO _ _ _ _ (by intro e;have:=congrArg Addr.block e;simp at this)).trans (cS _ _ _ c0);have k1:((w2.setCell ⟨w.heap.size,0,none⟩ (.int .i64 0)).setCell ⟨w.heap.size+1,0,none⟩ (.bool false)).cell? ⟨w.heap.size+1,0,none⟩=some (.bool false):=cS _ _ _ ((cO _ _ _ _ (by intro e;have:=congrArg Addr.block e;simp at this)).trans c1)
 have hfin:∃ w0,X w0/\(w2.setCell ⟨w.heap.size,0,none⟩ (.int .i64 0)).setCell ⟨w.heap.size+1,0,none⟩ (.bool false)=(w0.setCell ⟨w.heap.size,0,none⟩ (.int .i64 0)).setCell ⟨w.heap.size+1,0,none⟩ (.bool false):=⟨w2,hX,rfl⟩
 generalize (w2.setCell ⟨w.heap.size,0,none⟩ (.int .i64 0)).setCell ⟨w.heap.size+1,0,none⟩ (.bool false)=wz at *;simp [Leaves,settle,results,Tryz.results74,go_sem,k0,k1];exact hfin
theorem Zgo (cap:Value) (s rest:ByteArray) (w:World) (X:World->Prop) (hs:s.size<=281474976710656) (hr:rest.size<=s.size)
 (C:Calls Tryz.prog 123 #[.pointer (some ⟨w.heap.size+2,0,none⟩),cap] (W3 s w) fun e w'=>e=.returned (.tuple #[])/\Rdr w' (w.heap.size+2) rest/\(∃ x,Cl w' w.heap.size (.int .i64 x))/\(∃ x,Cl w' (w.heap.size+1) (.bool x))/\X w') :
 Calls Tryz.prog 74 #[.string s,.func (.func 123) #[] #[cap]] w fun e w'=>e=.returned (.tuple #[.int .i64 ((s.size:Int) - (rest.size:Int)),.bool true])/\∃ w0,X w0/\w'=(w0.setCell ⟨w.heap.size,0,none⟩ (.int .i64 ((s.size:Int) - (rest.size:Int)))).setCell ⟨w.heap.size+1,0,none⟩ (.bool true):=by
 have hmf:∀ (fn:Fn) (first cap:Array Value) (w:World),(Instr.makeFunc fn first cap).run Tryz.prog w=.ok (.func fn first cap) w:=fun _ _ _ _=>rfl
 have hw:wrap64 ((s.size:Int) - (rest.size:Int))=(s.size:Int) - (rest.size:Int):=by unfold wrap64;omega
 unfold W3 at C;go_enter_defers Tryz.func74,Tryz.ntmps74
 go_wp2_with fail
 refine (Zbt _ _).mono ?_;rintro e w1 ⟨rfl,rfl⟩;go_wp2_with fail
 refine C.mono ?_;rintro e w2 ⟨rfl,R,⟨x,c0,z0⟩,⟨b,c1,z1⟩,hX⟩;have cr:=R.c;go_wp2_with fail
 refine leaves_cons (f:=113) (args:=#[.pointer (some ⟨w.heap.size,0,none⟩),.pointer (some ⟨w.heap.size+1,0,none⟩)]) (by simp) (by simp [go_sem]) ?_;refine (ZkD _ _ _).mono ?_;rintro e u' w3 ⟨rfl,rfl,rfl⟩;generalize hv:(s.size:Int) - (rest.size:Int)=d at *;have k0:((w2.setCell ⟨w.heap.size,0,none⟩ (.int .i64 d)).setCell ⟨w.heap.size+1,0,none⟩ (.bool true)).cell? ⟨w.heap.size,0,none⟩=some (.int .i64 d):=(cO _ _ _ _ (by intro e;have:=congrArg Addr.block e;simp at this)).trans (cS _ _ _ c0);have k1:((w2.setCell ⟨w.heap.size,0,none⟩ (.int .i64 d)).setCell ⟨w.heap.size+1,0,none⟩ (.bool true)).cell? ⟨w.heap.size+1,0,none⟩=some (.bool true):=cS _ _ _ ((cO _ _ _ _ (by intro e;have:=congrArg Addr.block e;simp at this)).trans c1)
 have hfin:∃ w0,X w0/\(w2.setCell ⟨w.heap.size,0,none⟩ (.int .i64 d)).setCell ⟨w.heap.size+1,0,none⟩ (.bool true)=(w0.setCell ⟨w.heap.size,0,none⟩ (.int .i64 d)).setCell ⟨w.heap.size+1,0,none⟩ (.bool true):=⟨w2,hX,rfl⟩
 generalize (w2.setCell ⟨w.heap.size,0,none⟩ (.int .i64 d)).setCell ⟨w.heap.size+1,0,none⟩ (.bool true)=wz at *;simp [Leaves,settle,results,Tryz.results74,go_sem,k0,k1];exact hfin
theorem On.set4 {p:Nat} {w w':World} (h:On p w w') {b:Nat} (hb:w.heap.size<=b) (v0 v1 v2 v3:Value):On p w ((((w'.setCell ⟨b,0,none⟩ v0).setCell ⟨b,1,none⟩ v1).setCell ⟨b,2,none⟩ v2).setCell ⟨b,3,none⟩ v3):=(((h.set1 hb 0 v0).set1 hb 1 v1).set1 hb 2 v2).set1 hb 3 v3
def XRd (r:Option Im.Act) (p:Nat) (w:World) (e:Ending) (w':World):Prop:=On p w w'/\match r with
 | none=>e=.panicked PN
 | some x=>e=.returned (.agg #[.int .i64 x.kind,.int .i64 x.n,.string x.name,.string x.text])
theorem ZeH (s:ByteArray) (p:Nat) (w:World) (h:Rdr w p s) (hs:s.size<=281474976710656) :
 Calls Tryz.prog 124 #[.pointer (some ⟨p,0,none⟩)] w fun e w'=>XRd (Im.rIn s) p w e w':=by
 have hpl:=h.lt;have hN:Hid (Im.rIn s=none->∀ w',On p w w'->XRd (Im.rIn s) p w (.panicked PN) w'):=fun h9 w' h8=>by rw [h9];exact ⟨h8,rfl⟩
 have hY:Hid (∀ x,Im.rIn s=some x->∀ w',On p w w'->XRd (Im.rIn s) p w (.returned (.agg #[.int .i64 x.kind,.int .i64 x.n,.string x.name,.string x.text])) w'):=fun x h9 w' h8=>by rw [h9];exact ⟨h8,rfl⟩
 generalize XRd (Im.rIn s) p w=Q at *;have B1:=Za w (.cells #[.int .i64 0,.int .i64 0,.string ⟨#[]⟩,.string ⟨#[]⟩] 54 (0,0));have B2:=Za (w.alloc (.cells #[.int .i64 0,.int .i64 0,.string ⟨#[]⟩,.string ⟨#[]⟩] 54 (0,0))) (.cells #[.int .i64 0,.int .i64 0,.string ⟨#[]⟩,.string ⟨#[]⟩] 54 (0,0));have Y:=(XB.new w 54 0 0 ⟨#[]⟩ ⟨#[]⟩).next B2;have X:=XB.new (w.alloc (.cells #[.int .i64 0,.int .i64 0,.string ⟨#[]⟩,.string ⟨#[]⟩] 54 (0,0))) 54 0 0 ⟨#[]⟩ ⟨#[]⟩;rw [show (w.alloc (.cells #[.int .i64 0,.int .i64 0,.string ⟨#[]⟩,.string ⟨#[]⟩] 54 (0,0))).heap.size=w.heap.size+1 by simp] at X;have B:=bch B1 B2 (nl _);have G0:On p w _:=On.of B;have R:=h.below B;clear h B1 B2 B;go_enter Tryz.func124,Tryz.ntmps124
 go_wp2_with fail
 generalize ((w.alloc (.cells #[.int .i64 0,.int .i64 0,.string ⟨#[]⟩,.string ⟨#[]⟩] 54 (0,0))).alloc (.cells #[.int .i64 0,.int .i64 0,.string ⟨#[]⟩,.string ⟨#[]⟩] 54 (0,0)))=w0 at *;have C:=Zdi s p w0 R hs;unfold ZE at C
 cases h1:Im.rNum s with
 | none =>
  rw [h1] at C;simp only at C;refine C.mono ?_;rintro e w1 ⟨G,rfl⟩;have hq:=hN.out (by simp only [Im.rIn,Im.rIn4,h1]) _ (G0.past G);go_wp2_with fail
  exact ⟨rfl,hq⟩
 | some y =>
  obtain ⟨k,r1⟩:=y;rw [h1] at C;simp only at C;refine C.mono ?_;rintro e w1 ⟨G,rfl,R'⟩;have hs1:r1.size<=281474976710656:=nt (Zlg Im.Zay h1) hs;have X':=X.on G (by omega);have Y':=(Y.on G (by omega)).far (p:=w.heap.size+1) (o:=0) (by omega) (.int .i64 (k:Nat));have G':=(G0.past G).set1 (b:=w.heap.size+1) (by omega) 0 (.int .i64 (k:Nat));have R'':=R'.low (b:=w.heap.size+1) (by omega) 0 (.int .i64 (k:Nat));have X'':=X'.s0 (k:Nat);have c9:=X'.c0;have f9:=X'.f 0;clear C X Y R G0 G R' X';go_wp2_with fail
  clear c9 f9;generalize (w1.setCell ⟨w.heap.size+1,0,none⟩ (.int .i64 (k:Nat)))=v1 at *;have X:=X'';have Y:=Y';have R:=R'';have G0:=G';clear X'' Y' R'' G';have C:=Zdi r1 p v1 R hs1;unfold ZE at C
  cases h2:Im.rNum r1 with
  | none =>
   rw [h2] at C;simp only at C;refine C.mono ?_;rintro e w1 ⟨G,rfl⟩;have hq:=hN.out (by simp only [Im.rIn,Im.rIn4,h1,h2]) _ (G0.past G);go_wp2_with fail
   exact ⟨rfl,hq⟩
  | some y =>
   obtain ⟨n,r2⟩:=y;rw [h2] at C;simp only at C;refine C.mono ?_;rintro e w2 ⟨G,rfl,R'⟩;have hs2:r2.size<=281474976710656:=nt (Zlg Im.Zay h2) hs1;have X':=X.on G (by omega);have Y':=(Y.on G (by omega)).far (p:=w.heap.size+1) (o:=1) (by omega) (.int .i64 (n:Nat));have G':=(G0.past G).set1 (b:=w.heap.size+1) (by omega) 1 (.int .i64 (n:Nat));have R'':=R'.low (b:=w.heap.size+1) (by omega) 1 (.int .i64 (n:Nat));have X'':=X'.s1 (n:Nat);have c9:=X'.c1;have f9:=X'.f 1;clear C X Y R G0 G R' X';go_wp2_with fail
   clear c9 f9;generalize (w2.setCell ⟨w.heap.size+1,1,none⟩ (.int .i64 (n:Nat)))=v2 at *;have X:=X'';have Y:=Y';have R:=R'';have G0:=G';clear X'' Y' R'' G';have C:=Zfm r2 p v2 R hs2;unfold ZE at C
   cases h3:Im.rCnt 512 r2 with
   | none =>
    rw [h3] at C;simp only at C;refine C.mono ?_;rintro e w1 ⟨G,rfl⟩;have hq:=hN.out (by simp only [Im.rIn,Im.rIn4,h1,h2,h3]) _ (G0.past G);go_wp2_with fail
    exact ⟨rfl,hq⟩
   | some y =>
    obtain ⟨nm,r3⟩:=y;rw [h3] at C;simp only at C;refine C.mono ?_;rintro e w3 ⟨G,rfl,R'⟩;have hs3:r3.size<=281474976710656:=nt (Zlg (Im.Zbd 512) h3) hs2;have X':=X.on G (by omega);have Y':=(Y.on G (by omega)).far (p:=w.heap.size+1) (o:=2) (by omega) (.string nm);have G':=(G0.past G).set1 (b:=w.heap.size+1) (by omega) 2 (.string nm);have R'':=R'.low (b:=w.heap.size+1) (by omega) 2 (.string nm);have X'':=X'.s2 nm;have c9:=X'.c2;have f9:=X'.f 2;clear C X Y R G0 G R' X';go_wp2_with fail
    clear c9 f9;generalize (w3.setCell ⟨w.heap.size+1,2,none⟩ (.string nm))=v3 at *;have X:=X'';have Y:=Y';have R:=R'';have G0:=G';clear X'' Y' R'' G';have C:=Zfm r3 p v3 R hs3;unfold ZE at C
    cases h4:Im.rCnt 512 r3 with
    | none =>
     rw [h4] at C;simp only at C;refine C.mono ?_;rintro e w1 ⟨G,rfl⟩;have hq:=hN.out (by simp only [Im.rIn,Im.rIn4,h1,h2,h3,h4]) _ (G0.past G);go_wp2_with fail
     exact ⟨rfl,hq⟩
    | some y =>
     obtain ⟨tx,r4⟩:=y;rw [h4] at C;simp only at C;refine C.mono ?_;rintro e w4 ⟨G,rfl,R'⟩;have hs4:r4.size<=281474976710656:=nt (Zlg (Im.Zbd 512) h4) hs3;have X':=X.on G (by omega);have Y':=(Y.on G (by omega)).far (p:=w.heap.size+1) (o:=3) (by omega) (.string tx);have G':=(G0.past G).set1 (b:=w.heap.size+1) (by omega) 3 (.string tx);have R'':=R'.low (b:=w.heap.size+1) (by omega) 3 (.string tx);have X'':=X'.s3 tx;have c9:=X'.c3;have f9:=X'.f 3;clear C X Y R G0 G R' X';go_wp2_with fail
     clear c9 f9;generalize (w4.setCell ⟨w.heap.size+1,3,none⟩ (.string tx))=v4 at *;have X:=X'';have Y:=Y';have R:=R'';have G0:=G';clear X'' Y' R'' G';have C:=ZmL r4 p v4 R;unfold ZE at C;by_cases hz:r4.size=0
     ·rw [show rEnd r4=some ((),r4) from if_pos hz] at C;simp only at C;have hr:Im.rIn s=some ⟨(k:Nat),(n:Nat),nm,tx⟩:=by simp only [Im.rIn,Im.rIn4,h1,h2,h3,h4];exact if_pos hz
      refine C.mono ?_;rintro e w5 ⟨G,rfl,_⟩;have X':=X.on G (by omega);have Y':=Y.on G (by omega);have hq:=hY.out _ hr _ ((G0.past G).set4 (b:=w.heap.size) (nl _) (.int .i64 (k:Nat)) (.int .i64 (n:Nat)) (.string nm) (.string tx));have Y2:=Y'.set (k:Nat) (n:Nat) nm tx;obtain ⟨x0,x1,x2,x3,_⟩:=X';obtain ⟨y0,y1,y2,y3,yf⟩:=Y';have z0:=yf 0;have z1:=yf 1;have z2:=yf 2;have z3:=yf 3;clear C X Y R G0 G yf hN hY hr;go_wp2_with fail
      clear x0 x1 x2 x3 y0 y1 y2 y3 z0 z1 z2 z3;obtain ⟨y0,y1,y2,y3,_⟩:=Y2;generalize ((((w5.setCell ⟨w.heap.size,0,none⟩ (.int .i64 (k:Nat))).setCell ⟨w.heap.size,1,none⟩ (.int .i64 (n:Nat))).setCell ⟨w.heap.size,2,none⟩ (.string nm)).setCell ⟨w.heap.size,3,none⟩ (.string tx))=wz at *;exact bodyPost_ret (v:=.agg #[.int .i64 (k:Nat),.int .i64 (n:Nat),.string nm,.string tx]) (by simp [results,Tryz.results124,go_sem,y0,y1,y2,y3]) rfl hq
     ·rw [show rEnd r4=none from if_neg hz] at C;simp only at C;have hr:Im.rIn s=none:=by simp only [Im.rIn,Im.rIn4,h1,h2,h3,h4];exact if_neg hz
      refine C.mono ?_;rintro e w5 ⟨G,rfl⟩;have hq:=hN.out hr _ (G0.past G);go_wp2_with fail
      exact ⟨rfl,hq⟩
theorem On.after {p:Nat} {w w1 w2:World} (h:On p w w1) (g:Below w.heap.size w1 w2):On p w w2:=⟨g.os.trans h.os,g.tape.trans h.tape,g.output.trans h.output,Nat.le_trans h.size g.size,fun k hk hne=>(g.block k hk).trans (h.block k hk hne)⟩
theorem ZmU (w:World) (T:TypeId) (t:ByteArray):Rdr (w.alloc (.cells #[.string t] T (0,0))) w.heap.size t:=⟨World.cell?_alloc_new _ _ _ 0,World.frozen?_alloc_at _ _ _ _ rfl⟩
theorem ZiH (s:ByteArray) (p c:Nat) (w:World) (h:Rdr w p s) (hs:s.size<=281474976710656) (hr:Im.rAct s=none) :
 Calls Tryz.prog 123 #[.pointer (some ⟨p,0,none⟩),.pointer (some ⟨c,0,none⟩)] w fun e w'=>e=.panicked PN/\On p w w':=by
 have C:=ZcY s p w h hs;unfold ZE at C
 cases h1:Im.rCnt 2147483647 s with
 | none =>
  rw [h1] at C;simp only at C;clear h hr h1;go_enter Tryz.func123,Tryz.ntmps123
  go_wp2_with fail
  refine C.mono ?_;rintro e w1 ⟨G,rfl⟩;go_wp2_with fail
  exact ⟨rfl,rfl,G⟩
 | some y =>
  obtain ⟨t,r⟩:=y;rw [h1] at C;simp only at C;have ht:t.size<=281474976710656:=nt ((Im.Zbd _ s t r).1 h1).1.1 (by decide)
  have hi:Im.rIn t=none:=by
   cases hi:Im.rIn t with
   | none=>rfl
   | some x=>simp only [Im.rAct,h1,hi] at hr;cases hr
  clear h hr h1;go_enter Tryz.func123,Tryz.ntmps123
  go_wp2_with fail
  refine C.mono ?_;rintro e w1 ⟨G,rfl,R⟩;go_wp2_with fail
  refine (Zbt _ _).mono ?_;rintro e w2 ⟨rfl,rfl⟩;have C2:=ZeH t w1.heap.size _ (ZmU w1 143 t) ht;unfold XRd at C2;rw [hi] at C2;simp only at C2;have hsz:=G.size;go_wp2_with fail
  refine C2.mono ?_;rintro e w3 ⟨G3,rfl⟩;have G4:=G.after (((Za w1 (.cells #[.string t] 143 (0,0))).mono hsz).trans (G3.under hsz (by simp;omega)));go_wp2_with fail
  exact ⟨rfl,rfl,G4⟩
theorem ZiN (s r:ByteArray) (p c:Nat) (k n:Int) (nm tx:ByteArray) (x:Im.Act) (w:World) (h:Rdr w p s) (hs:s.size<=281474976710656) (hr:Im.rAct s=some (x,r)) (hx:XB w c k n nm tx) (hne:c ≠ p) :
 Calls Tryz.prog 123 #[.pointer (some ⟨p,0,none⟩),.pointer (some ⟨c,0,none⟩)] w fun e w'=>e=.returned (.tuple #[])/\∃ w1,On p w w1/\w'=(((w1.setCell ⟨c,0,none⟩ (.int .i64 x.kind)).setCell ⟨c,1,none⟩ (.int .i64 x.n)).setCell ⟨c,2,none⟩ (.string x.name)).setCell ⟨c,3,none⟩ (.string x.text)/\XB w' c x.kind x.n x.name x.text/\Rdr w' p r:=by
 have C:=ZcY s p w h hs;unfold ZE at C
 cases h1:Im.rCnt 2147483647 s with
 | none=>simp only [Im.rAct,h1] at hr;cases hr
 | some y =>
  obtain ⟨t,r'⟩:=y;rw [h1] at C;simp only at C;have ht:t.size<=281474976710656:=nt ((Im.Zbd _ s t r').1 h1).1.1 (by decide)
  obtain ⟨hi,rfl⟩:Im.rIn t=some x/\r'=r:=by
   cases hi:Im.rIn t with
   | none=>simp only [Im.rAct,h1,hi] at hr;cases hr
   | some x' =>
    simp only [Im.rAct,h1,hi,Option.some.injEq,Prod.mk.injEq] at hr;exact ⟨by rw [hr.1],hr.2⟩
  have hcl:=hx.lt;have hpl:=h.lt;have HX:Hid (∀ w',On p w w'->XB w' c k n nm tx):=fun w' h9=>hx.on h9 hne
  clear h hr h1 hx;go_enter Tryz.func123,Tryz.ntmps123
  go_wp2_with fail
  refine C.mono ?_;rintro e w1 ⟨G,rfl,R⟩;go_wp2_with fail
  refine (Zbt _ _).mono ?_;rintro e w2 ⟨rfl,rfl⟩;have C2:=ZeH t w1.heap.size _ (ZmU w1 143 t) ht;unfold XRd at C2;rw [hi] at C2;simp only at C2;have hsz:=G.size;go_wp2_with fail
  refine C2.mono ?_;rintro e w3 ⟨G3,rfl⟩;have G4:=G.after (((Za w1 (.cells #[.string t] 143 (0,0))).mono hsz).trans (G3.under hsz (by simp;omega)))
  have R4:=(R.below (Za w1 (.cells #[.string t] 143 (0,0))))
  have R5:Rdr w3 p r':=⟨(cB (w:=_) (a:=⟨p,0,none⟩) (G3.block p R4.lt (by simp;omega))).trans R4.c,(fB (w:=_) (a:=⟨p,0,none⟩) (G3.block p R4.lt (by simp;omega))).trans R4.f⟩
  have X4:=HX.out _ G4;have X5:=X4.set x.kind x.n x.name x.text;obtain ⟨x0,x1,x2,x3,xf⟩:=X4;have z0:=xf 0;have z1:=xf 1;have z2:=xf 2;have z3:=xf 3;clear xf C C2 R R4 G G3 HX;go_wp2_with fail
  go_end0
  exact ⟨rfl,w3,G4,rfl,X5,(((R5.low (b:=c) (by omega) 0 _).low (b:=c) (by omega) 1 _).low (b:=c) (by omega) 2 _).low (b:=c) (by omega) 3 _⟩
theorem Zsj {s r:ByteArray} {x:Im.Act} (h:Im.rAct s=some (x,r)):r.size<=s.size:=Zlg Im.Zgl h
theorem Zon (s:ByteArray) (c:Nat) (u:World) (hs:s.size<=281474976710656) (hr:Im.rAct s=none) :
 Calls Tryz.prog 74 #[.string s,.func (.func 123) #[] #[.pointer (some ⟨c,0,none⟩)]] u fun e w'=>e=.returned (.tuple #[.int .i64 0,.bool false])/\Below u.heap.size u w':=by
 obtain ⟨R,K0,K1,G,hz⟩:=ZqV s u;refine (ZhI _ s u (fun w0=>On (u.heap.size+2) (W3 s u) w0) ((ZiH s (u.heap.size+2) c (W3 s u) R hs hr).mono ?_)).mono ?_
 ·rintro e w' ⟨rfl,G1⟩;exact ⟨rfl,⟨_,K0.on G1 (by omega)⟩,⟨_,K1.on G1 (by omega)⟩,G1⟩
 ·rintro e w' ⟨rfl,w0,G1,rfl⟩;exact ⟨rfl,((G.trans (G1.under (by omega) (by omega))).setCell (p:=⟨u.heap.size,0,none⟩) (nl _) _).setCell (p:=⟨u.heap.size+1,0,none⟩) (by simp) _⟩
theorem Cl.four {w:World} {b c:Nat} {x:Value} (h:Cl w b x) (hne:b ≠ c) (v0 v1 v2 v3:Value):Cl ((((w.setCell ⟨c,0,none⟩ v0).setCell ⟨c,1,none⟩ v1).setCell ⟨c,2,none⟩ v2).setCell ⟨c,3,none⟩ v3) b x:=(((h.other hne 0 v0).other hne 1 v1).other hne 2 v2).other hne 3 v3
theorem ZkQ (s r:ByteArray) (c:Nat) (k n:Int) (nm tx:ByteArray) (x:Im.Act) (u:World) (hs:s.size<=281474976710656) (hr:Im.rAct s=some (x,r)) (hx:XB u c k n nm tx) :
 Calls Tryz.prog 74 #[.string s,.func (.func 123) #[] #[.pointer (some ⟨c,0,none⟩)]] u fun e w'=>e=.returned (.tuple #[.int .i64 ((s.size:Int) - (r.size:Int)),.bool true])/\XB w' c x.kind x.n x.name x.text/\On c u w':=by
 obtain ⟨R,K0,K1,G,hz⟩:=ZqV s u;have hcl:=hx.lt;refine (Zgo _ s r u (fun w0=>∃ w1,On (u.heap.size+2) (W3 s u) w1/\w0=(((w1.setCell ⟨c,0,none⟩ (.int .i64 x.kind)).setCell ⟨c,1,none⟩ (.int .i64 x.n)).setCell ⟨c,2,none⟩ (.string x.name)).setCell ⟨c,3,none⟩ (.string x.text)/\XB w0 c x.kind x.n x.name x.text) hs (Zsj hr) ((ZiN s r (u.heap.size+2) c k n nm tx x (W3 s u) R hs hr (hx.next G) (by omega)).mono ?_)).mono ?_
 ·rintro e w' ⟨rfl,w1,G1,rfl,X,R'⟩;exact ⟨rfl,R',⟨_,(K0.on G1 (by omega)).four (by omega) _ _ _ _⟩,⟨_,(K1.on G1 (by omega)).four (by omega) _ _ _ _⟩,w1,G1,rfl,X⟩
 ·rintro e w' ⟨rfl,w0,⟨w1,G1,hw0,X⟩,rfl⟩;refine ⟨rfl,(X.far (p:=u.heap.size) (o:=0) (by omega) _).far (p:=u.heap.size+1) (o:=0) (by omega) _,?_⟩;have G2:=G.trans (G1.under (lo:=u.heap.size) (by omega) (by omega));have k1:w0.os=w1.os:=by rw [hw0];rfl
  have k2:w0.tape=w1.tape:=by rw [hw0];rfl
  have k3:w0.output=w1.output:=by rw [hw0];rfl
  refine ⟨k1.trans G2.os,k2.trans G2.tape,k3.trans G2.output,?_,fun k hk hne=>?_⟩
  ·have:=G2.size;rw [hw0];simpa [World.setCell] using this
  ·have hkc:k ≠ c:=fun e=>hne (by rw [e])
   rw [Below.heap_setCell _ _ _ _ (by simp;omega),Below.heap_setCell _ _ _ _ (by simp;omega),hw0,Below.heap_setCell _ _ _ _ (by simpa using hkc),Below.heap_setCell _ _ _ _ (by simpa using hkc),Below.heap_setCell _ _ _ _ (by simpa using hkc),Below.heap_setCell _ _ _ _ (by simpa using hkc)];exact G2.block k hk
theorem ZlI (s:ByteArray) (w:World) (hs:s.size<=281474976710656) (hr:Im.rAct s=none) :
 Calls Tryz.prog 85 #[.string s] w fun e w'=>e=.returned (.tuple #[.agg #[.int .i64 0,.int .i64 0,.string ⟨#[]⟩,.string ⟨#[]⟩],.int .i64 0])/\Below w.heap.size w w':=by
 have hmf:∀ (fn:Fn) (first cap:Array Value) (w:World),(Instr.makeFunc fn first cap).run Tryz.prog w=.ok (.func fn first cap) w:=fun _ _ _ _=>rfl
 have B1:=Za w (.cells #[.int .i64 0,.int .i64 0,.string ⟨#[]⟩,.string ⟨#[]⟩] 54 (0,0));have B2:=Za (w.alloc (.cells #[.int .i64 0,.int .i64 0,.string ⟨#[]⟩,.string ⟨#[]⟩] 54 (0,0))) (.cells #[.int .i64 0,.int .i64 0,.string ⟨#[]⟩,.string ⟨#[]⟩] 54 (0,0));have Y:=(XB.new w 54 0 0 ⟨#[]⟩ ⟨#[]⟩).next B2;have B:=bch B1 B2 (nl _);have C:=Zon s (w.heap.size+1) ((w.alloc (.cells #[.int .i64 0,.int .i64 0,.string ⟨#[]⟩,.string ⟨#[]⟩] 54 (0,0))).alloc (.cells #[.int .i64 0,.int .i64 0,.string ⟨#[]⟩,.string ⟨#[]⟩] 54 (0,0))) hs hr;clear B1 B2 hr;go_enter Tryz.func85,Tryz.ntmps85
 go_wp2_with fail
 generalize ((w.alloc (.cells #[.int .i64 0,.int .i64 0,.string ⟨#[]⟩,.string ⟨#[]⟩] 54 (0,0))).alloc (.cells #[.int .i64 0,.int .i64 0,.string ⟨#[]⟩,.string ⟨#[]⟩] 54 (0,0)))=w0 at *;refine C.mono ?_;rintro e w1 ⟨rfl,G⟩;have Y1:=Y.next G;have B3:=Zav (bch B G (nl _)) (b:=w.heap.size) (nl _) (.int .i64 0) (.int .i64 0) (.string ⟨#[]⟩) (.string ⟨#[]⟩);have Y2:=Y1.set 0 0 ⟨#[]⟩ ⟨#[]⟩;obtain ⟨y0,y1,y2,y3,yf⟩:=Y1;have z0:=yf 0;have z1:=yf 1;have z2:=yf 2;have z3:=yf 3;clear C Y B G yf;go_wp2_with fail
 clear y0 y1 y2 y3 z0 z1 z2 z3;obtain ⟨y0,y1,y2,y3,_⟩:=Y2;generalize ((((w1.setCell ⟨w.heap.size,0,none⟩ (.int .i64 0)).setCell ⟨w.heap.size,1,none⟩ (.int .i64 0)).setCell ⟨w.heap.size,2,none⟩ (.string ⟨#[]⟩)).setCell ⟨w.heap.size,3,none⟩ (.string ⟨#[]⟩))=wz at *;exact bodyPost_ret (v:=.tuple #[.agg #[.int .i64 0,.int .i64 0,.string ⟨#[]⟩,.string ⟨#[]⟩],.int .i64 0]) (by simp [results,Tryz.results85,go_sem,y0,y1,y2,y3]) rfl ⟨rfl,B3⟩
theorem ZlF (s r:ByteArray) (k n:Int) (nm tx:ByteArray) (w:World) (hs:s.size<=281474976710656) (hr:Im.rAct s=some (⟨k,n,nm,tx⟩,r)) :
 Calls Tryz.prog 85 #[.string s] w fun e w'=>e=.returned (.tuple #[.agg #[.int .i64 k,.int .i64 n,.string nm,.string tx],.int .i64 ((s.size:Int) - (r.size:Int))])/\Below w.heap.size w w':=by
 have hmf:∀ (fn:Fn) (first cap:Array Value) (w:World),(Instr.makeFunc fn first cap).run Tryz.prog w=.ok (.func fn first cap) w:=fun _ _ _ _=>rfl
 have B1:=Za w (.cells #[.int .i64 0,.int .i64 0,.string ⟨#[]⟩,.string ⟨#[]⟩] 54 (0,0));have B2:=Za (w.alloc (.cells #[.int .i64 0,.int .i64 0,.string ⟨#[]⟩,.string ⟨#[]⟩] 54 (0,0))) (.cells #[.int .i64 0,.int .i64 0,.string ⟨#[]⟩,.string ⟨#[]⟩] 54 (0,0));have Y:=(XB.new w 54 0 0 ⟨#[]⟩ ⟨#[]⟩).next B2;have X:=XB.new (w.alloc (.cells #[.int .i64 0,.int .i64 0,.string ⟨#[]⟩,.string ⟨#[]⟩] 54 (0,0))) 54 0 0 ⟨#[]⟩ ⟨#[]⟩;rw [show (w.alloc (.cells #[.int .i64 0,.int .i64 0,.string ⟨#[]⟩,.string ⟨#[]⟩] 54 (0,0))).heap.size=w.heap.size+1 by simp] at X;have B:=bch B1 B2 (nl _);have C:=ZkQ s r (w.heap.size+1) 0 0 ⟨#[]⟩ ⟨#[]⟩ ⟨k,n,nm,tx⟩ ((w.alloc (.cells #[.int .i64 0,.int .i64 0,.string ⟨#[]⟩,.string ⟨#[]⟩] 54 (0,0))).alloc (.cells #[.int .i64 0,.int .i64 0,.string ⟨#[]⟩,.string ⟨#[]⟩] 54 (0,0))) hs hr X;have hxl:=X.lt;clear B1 B2 hr X;generalize hd:(s.size:Int) - (r.size:Int)=d at *;clear hd;go_enter Tryz.func85,Tryz.ntmps85
 go_wp2_with fail
 generalize ((w.alloc (.cells #[.int .i64 0,.int .i64 0,.string ⟨#[]⟩,.string ⟨#[]⟩] 54 (0,0))).alloc (.cells #[.int .i64 0,.int .i64 0,.string ⟨#[]⟩,.string ⟨#[]⟩] 54 (0,0)))=w0 at *;refine C.mono ?_;rintro e w1 ⟨rfl,X1,G⟩;have Y1:=Y.on G (by omega);have B2:=B.trans (G.under (lo:=w.heap.size) (by omega) (by omega));have B3:=Zav B2 (b:=w.heap.size) (nl _) (.int .i64 k) (.int .i64 n) (.string nm) (.string tx);have Y2:=Y1.set k n nm tx;obtain ⟨x0,x1,x2,x3,_⟩:=X1;obtain ⟨y0,y1,y2,y3,yf⟩:=Y1;have z0:=yf 0;have z1:=yf 1;have z2:=yf 2;have z3:=yf 3;clear C Y B G yf B2;go_wp2_with fail
 clear x0 x1 x2 x3 y0 y1 y2 y3 z0 z1 z2 z3;obtain ⟨y0,y1,y2,y3,_⟩:=Y2;generalize ((((w1.setCell ⟨w.heap.size,0,none⟩ (.int .i64 k)).setCell ⟨w.heap.size,1,none⟩ (.int .i64 n)).setCell ⟨w.heap.size,2,none⟩ (.string nm)).setCell ⟨w.heap.size,3,none⟩ (.string tx))=wz at *;exact bodyPost_ret (v:=.tuple #[.agg #[.int .i64 k,.int .i64 n,.string nm,.string tx],.int .i64 d]) (by simp [results,Tryz.results85,go_sem,y0,y1,y2,y3]) rfl ⟨rfl,B3⟩
section
variable {P:Program} {w:World}
theorem Zeq (w:World) (t ty e:TypeId) (i:TypeInfo) (ht:P.underlying t=some (.slice e)) (hi:P.info? e=some i) (b0:Addr) (n c0:Nat) (hle:n<=c0) (p:Option Addr) (c:Nat) :
 (Builtin.append_ #[t,t] ty #[.slice (some b0) n c0,.slice p 0 c]).run P w=.ok (.slice (some b0) n c0) w:=by
 cases p <;> simp [Builtin.append_,run_underlying ht,sizeOf,typeInfo,hi,Builtin.lenOf,Builtin.firstCells,loadCells,loadCellsFrom,storeCells,hle]
theorem Zac {ops:Array Oper} {rest:List Oper} {o:Oper} {a:Act} {Q:Exit->Act->World->Prop} (hgd:o.guard=none) (s x:Operand) (t:TypeId)
 (ho:o.op=.call { callee:=.builtin .append,args:=#[s,x],argTypes:=#[t,t] })
 (base:Nat) (e:TypeId) (i:TypeInfo) (z:Value) (size bytes:Nat) (ht:P.underlying t=some (.slice e)) (hi:P.info? e=some i) (hz:i.zero=some z)
 (hsize:i.size=size) (hby:i.bytes=bytes) (hzs:z.cells.size=size) (hsz:0<size)
 (g0 n c0:Nat) (xs:List Value) (hs:a.eval s=.slice (some ⟨g0,0,none⟩) n c0) (hown:w.ownsRow base e size (.slice (some ⟨g0,0,none⟩) n c0) n xs)
 (ad:Option Addr) (m c:Nat) (news:List Value) (hx:a.eval x=.slice ad m c) (hl:news.length=m*size) (hnews:m=0\/∃ b,ad=some b/\∀ j u,news[j]?=some u->w.cell? (b.add j)=some u) (h1:∀ u ∈ news,u.oneCell'=true)
 (h63:n+m<=maxLen) (hbytes:(n+m)*bytes<=140737488355328) (hbase:base<=w.heap.size) (H:Nat) (hH:w.heap.size=H)
 (h:∀ g cap w',w'.ownsRow base e size (.slice (some ⟨g,0,none⟩) (n+m) cap) (n+m) (xs++news)->w.grownBy w' (some g0)->(g=g0\/g=H)->wpList P ops Q rest (a.put o.dst (.slice (some ⟨g,0,none⟩) (n+m) cap)) w'):wpList P ops Q (o :: rest) a w:=by
 by_cases hm:m=0
 ·subst hm;obtain rfl:news=[]:=lZ.1 (by rw [hl];omega)
  have hle:n<=c0:=by
   rcases hown.2 with ⟨h9,_⟩ | ⟨g,cap,cur,h9,_,_,h8,_⟩
   ·cases h9
   ·simp only [Value.slice.injEq] at h9;obtain ⟨_,_,rfl⟩:=h9;exact h8
  refine wpList_plain hgd fun K hK=>?_
  have hr:=Zeq (P:=P) w t o.type e i ht hi ⟨g0,0,none⟩ n c0 hle ad c;unfold Oper.wp execOp;simp only [ho,resolve,invoke,builtin,Sem.run_bind,Sem.run_pure,Result.andThen_ok,List.map_toArray,List.map_cons,List.map_nil,hs,hx,hr];have h9:=h g0 c0 w (by rw [Nat.add_zero,List.append_nil];exact hown) ⟨rfl,rfl,rfl,nl _,fun _ _ _=>rfl⟩ (.inl rfl);rw [Nat.add_zero] at h9;exact hK _ _ h9
 ·rcases hnews with h9 | ⟨b,rfl,hnews⟩
  ·exact absurd h9 hm
  ·refine zwL w hgd s x t ho base e i z size bytes ht hi hz hsize hby hzs hsz _ n xs hs hown b m c news hx hl hnews h1 (by omega) h63 hbytes hbase H hH (fun g cap w' h2 h3 h4 _=>h g cap w' h2 h3 ?_);rcases h4 with h4 | h4
   ·simp only [Value.ownBlock,Option.some.injEq] at h4;exact .inl h4.symm
   ·exact .inr h4
end
end Go.Proofs.YtbjbjbpgmojcbabGreat
