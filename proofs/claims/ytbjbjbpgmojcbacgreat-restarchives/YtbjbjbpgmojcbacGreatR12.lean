/- A part of the proof: what it leans on. -/
import Derived.RegionTactic
import Derived.ChangeAlike
import Derived.BigRegion
import Derived.Test.YtbjbjbpgmojcbacGreatR01
import Derived.Test.YtbjbjbpgmojcbacGreatR08
import Derived.Test.YtbjbjbpgmojcbacGreatR09
import Derived.Test.YtbjbjbpgmojcbacGreatR11
set_option maxRecDepth 8000
set_option maxHeartbeats 8000000
namespace Go.Proofs.YtbjbjbpgmojcbacGreat
open Go.RowKit
namespace Ar
theorem used_iff {a:A} {n:Int}:used a n=true ↔ ∃ k,k<a.files.length/\(fa a.files k).dict=n:=by
 unfold used
 rw [List.any_eq_true]
 constructor
 · rintro ⟨f,hf,hd⟩
   obtain ⟨k,hk,rfl⟩:=List.getElem_of_mem hf
   exact ⟨k,hk,by simpa [fa,hk] using hd⟩
 · rintro ⟨k,hk,hd⟩
   exact ⟨a.files[k],List.getElem_mem hk,by simpa [fa,hk] using hd⟩
theorem used_no {a:A} {n:Int} (h:∀ k,k<a.files.length->(fa a.files k).dict ≠ n):used a n=false:=by
 cases hu:used a n with
 | false=>rfl
 | true=>obtain ⟨k,h1,h2⟩:=used_iff.1 hu;exact absurd h2 (h k h1)
end Ar
theorem packs_any (f:Ar.F) (c i:Nat) (w:World) (hc:w.cell? ⟨c,0,none⟩=some (.int .i64 i)) (hi:i<=4) :
 Calls Tryz.prog 33 #[fv f,.pointer (some ⟨c,0,none⟩)] w fun e w'=>e=.returned (.bool (decide (f.dict=((i+1:Nat):Int))))/\Below w.heap.size w w':=by
 have hlt:c<w.heap.size:=World.block_lt_of_cell? w _ hc
 unfold fv
 have hb:=fun o=>(Below.refl w.heap.size w).alloc (Nat.le_refl _) o
 have hii:(i:Int)<=4:=by omega
 rw [show ((i+1:Nat):Int)=(i:Int)+1 by omega]
 generalize f.name=f0 at *
 generalize f.dict=f1 at *
 generalize f.size=f2 at *
 generalize f.sum=f3 at *
 generalize f.blk=f4 at *
 obtain ⟨r,hr⟩:∃ r,decide (f1=(i:Int)+1)=r:=⟨_,rfl⟩
 rw [hr]
 have hr2:(f1 == (i:Int)+1)=r:=by rw [<-hr];rfl
 go_enter Tryz.func33,Tryz.ntmps33
 go_wp2_with fail
 go_ret
 exact ⟨rfl,hb _⟩
theorem firstUsed_any (af:Option Addr) (cf:Nat) (a:Ar.A) (c i:Nat) (w:World) (h:FlSl w af a.files) (hn:a.files.length<=12) (hc:w.cell? ⟨c,0,none⟩=some (.int .i64 i)) (hi:i<=4) :
 Calls Tryz.prog 68 #[.slice af a.files.length cf,.func (.func 33) #[] #[.pointer (some ⟨c,0,none⟩)]] w fun e w'=>∃ r:Int,e=.returned (.int .i64 r)/\decide (0<=r)=Ar.used a ((i+1:Nat):Int)/\Below w.heap.size w w':=by
 have hlt:c<w.heap.size:=World.block_lt_of_cell? w _ hc
 have HFl:Hid (∀ w',Below w.heap.size w w'->∀ k,k<a.files.length->∃ b off,af=some ⟨b,off,none⟩/\b<w'.heap.size/\FlC w' b (off+k*5) (Ar.fa a.files k)):=fun w' h9 k hk=>(h.below h9).at hk
 have HC:Hid (∀ w',Below w.heap.size w w'->∀ k,Calls Tryz.prog 33 #[fv (Ar.fa a.files k),.pointer (some ⟨c,0,none⟩)] w' fun e w2=>e=.returned (.bool (decide ((Ar.fa a.files k).dict=((i+1:Nat):Int))))/\Below w'.heap.size w' w2):=fun w' h9 k=>packs_any _ c i w' ((h9.cell (p:=⟨c,0,none⟩) hlt).trans hc) hi
 have HY:Hid (∀ k,k<a.files.length->(Ar.fa a.files k).dict=((i+1:Nat):Int)->Ar.used a ((i+1:Nat):Int)=true):=fun k h1 h2=>Ar.used_iff.2 ⟨k,h1,h2⟩
 have HN:Hid ((∀ k,k<a.files.length->(Ar.fa a.files k).dict ≠ ((i+1:Nat):Int))->Ar.used a ((i+1:Nat):Int)=false):=fun h9=>Ar.used_no h9
 unfold fv at HC
 generalize Ar.used a ((i+1:Nat):Int)=U at *
 generalize ((i+1:Nat):Int)=n at *
 clear h hc
 generalize a.files.length=N at *
 have hNi:(N:Int)<=12:=by omega
 go_enter Tryz.func68,Tryz.ntmps68
 go_wp2_with fail
 go_loopw [8] (fun i wr=>∃ k:Nat,k<=N/\i=.int .i64 k/\Hid (∀ j,j<k->(Ar.fa a.files j).dict ≠ n)/\Below w.heap.size w wr) (fun i _=>N - (intOf i).toNat)
 case atStart=>exact ⟨0,by omega,rfl,fun j hj=>by omega,Below.refl _ _⟩
 case round =>
  obtain ⟨k,hk2,rfl,HK,B1⟩:=hrel
  by_cases hlt:k<N
  · have d1:decide ((k:Int)<(N:Int))=true:=by simp;omega
    have d1':decide (k<N)=true:=by simp;omega
    have hki:(k:Int)<(N:Int):=by omega
    obtain ⟨b,off,rfl,hbl,hcell⟩:=HFl.out wr B1 k hlt
    obtain ⟨c0,c1,c2,c3,c4⟩:=hcell
    have C:=HC.out wr B1 k
    by_cases hd:(Ar.fa a.files k).dict=n
    · have hU:=HY.out k hlt hd
      rw [decide_eq_true hd] at C
      clear hd HY HN HK
      generalize (Ar.fa a.files k).name=f0 at *
      generalize (Ar.fa a.files k).dict=f1 at *
      generalize (Ar.fa a.files k).size=f2 at *
      generalize (Ar.fa a.files k).sum=f3 at *
      generalize (Ar.fa a.files k).blk=f4 at *
      have HU:Hid (U=true):=hU
      clear hU
      go_wp2_with fail
      refine C.mono ?_
      rintro e w2 ⟨rfl,G⟩
      go_wp2_with fail
      go_ret
      exact ⟨_,rfl,by rw [HU.out];exact decide_eq_true (by omega),bch B1 G (Nat.le_refl _)⟩
    · have HK2:Hid (∀ j,j<k+1->(Ar.fa a.files j).dict ≠ n):=fun j hj=>by
       by_cases e:j=k
       · subst e;exact hd
       · exact HK.out j (by omega)
      rw [decide_eq_false hd] at C
      clear hd HY HN HK
      generalize hf0:(Ar.fa a.files k).name=f0 at *
      generalize hf1:(Ar.fa a.files k).dict=f1 at C c1
      generalize (Ar.fa a.files k).size=f2 at *
      generalize (Ar.fa a.files k).sum=f3 at *
      generalize (Ar.fa a.files k).blk=f4 at *
      clear hf0 hf1
      go_wp2_with fail
      refine C.mono ?_
      rintro e w2 ⟨rfl,G⟩
      have B2:=bch B1 G (Nat.le_refl _)
      go_wp2_with fail
      go_roundw
      case rel=>exact ⟨k+1,by omega,by go_num,HK2,B2⟩
      case measure=>simp [intOf];omega
  · obtain rfl:k=N:=by omega
    have d1:decide ((k:Int)<(k:Int))=false:=by simp
    have HU:Hid (U=false):=HN.out HK.out
    clear HN HK HY
    go_wp2_with fail
    go_ret
    exact ⟨_,rfl,by rw [HU.out];rfl,B1⟩
theorem anyUsed_any (af:Option Addr) (cf:Nat) (a:Ar.A) (c i:Nat) (w:World) (h:FlSl w af a.files) (hn:a.files.length<=12) (hc:w.cell? ⟨c,0,none⟩=some (.int .i64 i)) (hi:i<=4) :
 Calls Tryz.prog 34 #[.slice af a.files.length cf,.func (.func 33) #[] #[.pointer (some ⟨c,0,none⟩)]] w fun e w'=>e=.returned (.bool (Ar.used a ((i+1:Nat):Int)))/\Below w.heap.size w w':=by
 have c1:=firstUsed_any af cf a c i w h hn hc hi
 generalize Ar.used a ((i+1:Nat):Int)=U at *
 generalize a.files.length=N at *
 clear h hc
 go_enter Tryz.func34,Tryz.ntmps34
 go_wp2_with fail
 refine c1.mono ?_
 rintro e w1 ⟨r,rfl,hr,G⟩
 go_wp2_with fail
 go_ret
 exact ⟨by rw [<-hr];rfl,G⟩
end Go.Proofs.YtbjbjbpgmojcbacGreat
namespace Go.Proofs.YtbjbjbpgmojcbacGreat
open Go.RowKit
structure CpS (w0 wr:World) (C lo:Nat) (v1 v2:Value) (n1 n2:Nat) (xs1 xs2:List Value):Prop where
 c0:wr.cell? ⟨C,0,none⟩=some v1
 c1:wr.cell? ⟨C,1,none⟩=some v2
 f0:wr.frozen? ⟨C,0,none⟩=false
 f1:wr.frozen? ⟨C,1,none⟩=false
 o1:wr.ownsRow lo 9 1 v1 n1 xs1
 o2:wr.ownsRow lo 47 5 v2 n2 xs2
 ne:∀ j,v1.ownBlock=some j->v2.ownBlock ≠ some j
 a1:v1.ownBlock ≠ some C
 a2:v2.ownBlock ≠ some C
 hC:lo<=C
 hb:C<wr.heap.size
 bel:Below lo w0 wr
theorem CpS.below {w0 wr w':World} {C lo:Nat} {v1 v2:Value} {n1 n2:Nat} {xs1 xs2:List Value} (h:CpS w0 wr C lo v1 v2 n1 n2 xs1 xs2) (hb:Below wr.heap.size wr w'):CpS w0 w' C lo v1 v2 n1 n2 xs1 xs2:=by
 have hB:=h.hb
 have hl:=h.hC
 exact ⟨(hb.cell (p:=⟨C,0,none⟩) hB).trans h.c0,(hb.cell (p:=⟨C,1,none⟩) hB).trans h.c1,(hb.frozen (p:=⟨C,0,none⟩) hB).trans h.f0,(hb.frozen (p:=⟨C,1,none⟩) hB).trans h.f1,
  own_below h.o1 hb,own_below h.o2 hb,h.ne,h.a1,h.a2,h.hC,Nat.lt_of_lt_of_le hB hb.size,h.bel.trans (hb.mono (by omega))⟩
theorem CpS.put1 {w0 wr w2:World} {C lo g cap n1 m n2:Nat} {v1 v2:Value} {xs1 ys xs2:List Value} {o:Obj} (h:CpS w0 wr C lo v1 v2 n1 n2 xs1 xs2) (hg:(wr.alloc o).grownBy w2 v1.ownBlock)
 (ho:w2.ownsRow lo 9 1 (.slice (some ⟨g,0,none⟩) m cap) m ys) (hl:v1.ownBlock=some g\/g=(wr.alloc o).heap.size) :
 ((w2.cell? ⟨C,0,none⟩=some v1/\w2.frozen? ⟨C,0,none⟩=false)/\CpS w0 (w2.setCell ⟨C,0,none⟩ (.slice (some ⟨g,0,none⟩) m cap)) C lo (.slice (some ⟨g,0,none⟩) m cap) v2 m n2 ys xs2) ∧
 ∀ c v,wr.cell? ⟨c,0,none⟩=some v->c ≠ C->v1.ownBlock ≠ some c->(w2.setCell ⟨C,0,none⟩ (.slice (some ⟨g,0,none⟩) m cap)).cell? ⟨c,0,none⟩=some v:=by
 have hB:=h.hb
 have hlC:=h.hC
 have hsz:(wr.alloc o).heap.size=wr.heap.size+1:=by simp
 have ha:=h.below ((Below.refl _ _).alloc (Nat.le_refl _) o)
 have n0:some C ≠ v1.ownBlock:=h.a1.symm
 have k0:=cell_keep hg ha.c0 n0
 have k1:=cell_keep hg ha.c1 n0
 have q0:=frozen_keep hg (by omega) ha.f0 n0
 have q1:=frozen_keep hg (by omega) ha.f1 n0
 have hsg:=setCell_grown w2 ⟨C,0,none⟩ (.slice (some ⟨g,0,none⟩) m cap)
 have hz:(wr.alloc o).heap.size<=w2.heap.size:=hg.size
 have hgC:g ≠ C:=by
  rcases hl with hl | hl
  · rintro rfl;exact h.a1 hl
  · omega
 refine ⟨⟨⟨k0,q0⟩,World.cell?_setCell_same _ _ _ k0,?_,by rw [World.frozen?_setCell];exact q0,by rw [World.frozen?_setCell];exact q1,ho.kept hsg (.inr (by simp [Value.ownBlock];exact hgC)),?_,?_,by simp [Value.ownBlock];exact hgC,h.a2,hlC,?_,?_⟩,?_⟩
 · exact (World.cell?_setCell_other w2 _ _ _ (by intro e;have:=congrArg Addr.off e;simp at this)).trans k1
 · refine (ha.o2.kept hg ?_).kept hsg (.inr h.a2)
   cases hv:v2.ownBlock with
   | none=>exact .inl rfl
   | some j=>exact .inr (fun e=>h.ne j e.symm hv)
 · intro j hj e
   simp [Value.ownBlock] at hj
   subst hj
   rcases hl with hl | hl
   · exact h.ne g hl e
   · have:=(h.o2.lt g e).2
     omega
 · have:=hsg.size
   omega
 · exact ((h.bel.alloc (by omega) o).grown hg (by omega) (fun j hj=>(h.o1.lt j hj).1)).setCell hlC _
 · intro c v hc hcC hcv
   have hcl:=World.block_lt_of_cell? wr _ hc
   exact cell_keep hsg (cell_keep hg ((World.cell?_alloc_lt wr o _ hcl).trans hc) (fun e=>hcv e.symm)) (by simp;exact hcC)
theorem own_set1 {w:World} {lo g cap i:Nat} {fs:List Ar.F} (d:Int) (h:w.ownsRow lo 47 5 (.slice (some ⟨g,0,none⟩) fs.length cap) fs.length (fcs fs)) (hi:i<fs.length) :
 (w.setCell ⟨g,i*5+1,none⟩ (.int .i64 d)).ownsRow lo 47 5 (.slice (some ⟨g,0,none⟩) fs.length cap) fs.length (fcs (fs.take i++{ Ar.fa fs i with dict:=d } :: fs.drop (i+1)))/\w.cell? ⟨g,i*5+1,none⟩=some (.int .i64 (Ar.fa fs i).dict)/\w.frozen? ⟨g,i*5+1,none⟩=false:=by
 have hcl:=fcs_len fs
 rcases h.2 with ⟨h1,h2⟩ | ⟨g',cap',cur,h1,h2,h3,h4,h5,h6,h7⟩
 · omega
 simp only [Value.slice.injEq,Option.some.injEq,Addr.mk.injEq] at h1
 obtain ⟨⟨rfl,_⟩,_,rfl⟩:=h1
 have hat:∀ j,j<5->w.cell? ⟨g,i*5+j,none⟩=(fc (Ar.fa fs i))[j]?:=fun j hj=>by
  rw [cellB h3,<-Array.getElem?_toList]
  have e1:cur.toList[i*5+j]?=(fcs fs)[i*5+j]?:=by rw [<-h7,List.getElem?_take,if_pos (by omega)]
  have e2:fs=fs.take i++Ar.fa fs i :: fs.drop (i+1):=by
   have e3:Ar.fa fs i=fs[i]:=by simp [Ar.fa,hi]
   rw [e3,<-List.drop_eq_getElem_cons hi,List.take_append_drop]
  rw [e1,e2,fcs_append,List.getElem?_append_right (by rw [fcs_len,List.length_take];omega),fcs_len,List.length_take,show i*5+j - min i fs.length*5=j by omega,fcs,List.getElem?_append_left (by simp;omega),<-e2]
  rfl
 have k0:w.cell? ⟨g,i*5,none⟩=some (.string (Ar.fa fs i).name):=hat 0 (by omega)
 have k1:w.cell? ⟨g,i*5+1,none⟩=some (.int .i64 (Ar.fa fs i).dict):=hat 1 (by omega)
 have k2:w.cell? ⟨g,i*5+2,none⟩=some (.int .i64 (Ar.fa fs i).size):=hat 2 (by omega)
 have k3:w.cell? ⟨g,i*5+3,none⟩=some (.int .i64 (Ar.fa fs i).sum):=hat 3 (by omega)
 have k4:w.cell? ⟨g,i*5+4,none⟩=some (.string (Ar.fa fs i).blk):=hat 4 (by omega)
 refine ⟨?_,k1,frozenB h3 _⟩
 have hw:=own_set5 { Ar.fa fs i with dict:=d } h hi
 unfold w5s at hw
 simp only at hw
 rw [setCell_self k0] at hw
 have j2:=(sc_ne w g (i*5+1) (i*5+2) (.int .i64 d) (by omega)).trans k2
 have j3:=(sc_ne w g (i*5+1) (i*5+3) (.int .i64 d) (by omega)).trans k3
 have j4:=(sc_ne w g (i*5+1) (i*5+4) (.int .i64 d) (by omega)).trans k4
 rw [setCell_self j2,setCell_self j3,setCell_self j4] at hw
 exact hw
theorem CpS.set1 {w0 wr:World} {C lo g cap n1 i:Nat} {v1:Value} {xs1:List Value} {fs:List Ar.F} (d:Int) (h:CpS w0 wr C lo v1 (.slice (some ⟨g,0,none⟩) fs.length cap) n1 fs.length xs1 (fcs fs)) (hi:i<fs.length) :
 CpS w0 (wr.setCell ⟨g,i*5+1,none⟩ (.int .i64 d)) C lo v1 (.slice (some ⟨g,0,none⟩) fs.length cap) n1 fs.length xs1 (fcs (fs.take i++{ Ar.fa fs i with dict:=d } :: fs.drop (i+1)))/\wr.cell? ⟨g,i*5+1,none⟩=some (.int .i64 (Ar.fa fs i).dict)/\wr.frozen? ⟨g,i*5+1,none⟩=false:=by
 obtain ⟨r1,r2,r3⟩:=own_set1 d h.o2 hi
 have hsg:=setCell_grown wr ⟨g,i*5+1,none⟩ (.int .i64 d)
 have hgC:some C ≠ some g:=fun e=>h.a2 (show some g=some C from e.symm)
 have hg:=(h.o2.lt g rfl).1
 refine ⟨⟨cell_keep hsg h.c0 hgC,cell_keep hsg h.c1 hgC,frozen_keep hsg h.hb h.f0 hgC,frozen_keep hsg h.hb h.f1 hgC,h.o1.kept hsg ?_,r1,h.ne,h.a1,h.a2,h.hC,Nat.lt_of_lt_of_le h.hb hsg.size,h.bel.setCell hg _⟩,r2,r3⟩
 cases hv:v1.ownBlock with
 | none=>exact .inl rfl
 | some j=>exact .inr (fun e=>h.ne j hv e.symm)
theorem Fr.keep {w w0 w':World} {x y:Value} {lo:Nat} (h:Fr w w0 x y) (G:Below lo w0 w') (hl:w.heap.size+1<lo):Fr w w' x y:=by
 have h1:w.heap.size<lo:=by omega
 exact ⟨h.b.trans (G.mono (by omega)),(G.cell (p:=⟨w.heap.size,0,none⟩) h1).trans h.a0,(G.cell (p:=⟨w.heap.size,1,none⟩) h1).trans h.a1,(G.cell (p:=⟨w.heap.size+1,0,none⟩) hl).trans h.r0,(G.cell (p:=⟨w.heap.size+1,1,none⟩) hl).trans h.r1,
  (G.frozen (p:=⟨w.heap.size+1,0,none⟩) hl).trans h.z0,(G.frozen (p:=⟨w.heap.size+1,1,none⟩) hl).trans h.z1,Nat.lt_of_lt_of_le h.hz G.size⟩
end Go.Proofs.YtbjbjbpgmojcbacGreat
namespace Go.Proofs.YtbjbjbpgmojcbacGreat
namespace Ar
theorem rkK_le (a:A):∀ k,rkK a k<=k
 | 0=>Nat.le_refl _
 | k+1=>by have:=rkK_le a k;rw [rkK];split <;> omega
theorem rkK_mono (a:A) {j k:Nat} (h:j<=k):rkK a j<=rkK a k:=by
 induction k with
 | zero =>
  obtain rfl:j=0:=by omega
  exact Nat.le_refl _
 | succ k ih =>
  by_cases e:j=k+1
  · subst e;exact Nat.le_refl _
  · have:=ih (by omega);rw [rkK];omega
theorem cpD_len (a:A):∀ k,(cpD a k).length=rkK a k
 | 0=>rfl
 | k+1=>by
  rw [cpD,rkK]
  split
  · rw [List.length_append,cpD_len a k];rfl
  · rw [cpD_len a k];rfl
theorem xa_append_left {xs ys:List ByteArray} {i:Nat} (h:i<xs.length):Tr.xa (xs++ys) i=Tr.xa xs i:=by
 simp [Tr.xa,List.getElem?_append_left h]
theorem cpD_get {a:A} {n:Nat} (hn:1<=n) (hu:used a ((n:Nat):Int)=true):∀ {k:Nat},n<=k->1<=rkK a n/\Tr.xa (cpD a k) (rkK a n - 1)=Tr.xa a.dicts (n - 1)
 | 0,h=>by omega
 | k+1,h=>by
  by_cases e:n=k+1
  · subst e
    have e1:rkK a (k+1)=rkK a k+1:=by rw [rkK,if_pos hu]
    refine ⟨by omega,?_⟩
    rw [cpD,if_pos hu,e1,Nat.add_sub_cancel,Nat.add_sub_cancel]
    have hl:=cpD_len a k
    simp [Tr.xa,<-hl]
  · obtain ⟨h1,h2⟩:=cpD_get hn hu (k:=k) (by omega)
    refine ⟨h1,?_⟩
    have hl:=cpD_len a k
    have hm:=rkK_mono a (show n<=k by omega)
    rw [cpD]
    split
    · rw [xa_append_left (by omega)];exact h2
    · exact h2
theorem used_mem {a:A} {f:F} (h:f ∈ a.files):used a f.dict=true:=List.any_eq_true.2 ⟨f,h,decide_eq_true rfl⟩
theorem cmpA_is {a:A} (h:chk a=0):cmpA a=⟨cpD a a.dicts.length,a.files.map (cpF a a.dicts.length)⟩:=if_pos h
theorem cpF_name (a:A) (k:Nat) (f:F):(cpF a k f).name=f.name:=by unfold cpF;split <;> rfl
theorem cpF_parts (a:A) (k:Nat) (f:F):(cpF a k f).size=f.size/\(cpF a k f).sum=f.sum/\(cpF a k f).blk=f.blk:=by unfold cpF;split <;> exact ⟨rfl,rfl,rfl⟩
theorem cpF_dict {a:A} {f:F} (hf:f ∈ a.files) (hd:has a.dicts f.dict=true):dct (cpD a a.dicts.length) (cpF a a.dicts.length f).dict=dct a.dicts f.dict/\has (cpD a a.dicts.length) (cpF a a.dicts.length f).dict=true:=by
 have hd':=of_decide_eq_true hd
 unfold cpF
 by_cases h1:1<=f.dict
 · rw [if_pos ⟨h1,hd'.2⟩]
   obtain ⟨n,hn⟩:∃ n:Nat,f.dict=(n:Int):=⟨f.dict.toNat,by omega⟩
   have hu:=used_mem hf
   rw [hn] at hu hd' h1
   obtain ⟨h2,h3⟩:=cpD_get (a:=a) (n:=n) (by omega) hu (k:=a.dicts.length) (by omega)
   have hm:=rkK_mono a (show n<=a.dicts.length by omega)
   have hl:=cpD_len a a.dicts.length
   simp only [hn,Int.toNat_natCast]
   refine ⟨?_,decide_eq_true ⟨by omega,by omega⟩⟩
   unfold dct
   rw [if_neg (by omega),if_neg (by omega),show ((rkK a n:Nat):Int) - 1=((rkK a n - 1:Nat):Int) by omega,show ((n:Nat):Int) - 1=((n - 1:Nat):Int) by omega,Int.toNat_natCast,Int.toNat_natCast]
   exact h3
 · rw [if_neg (by omega)]
   have e:f.dict=0:=by omega
   rw [e]
   exact ⟨rfl,decide_eq_true ⟨by omega,by omega⟩⟩
theorem up_cp {a:A} {f:F} (hf:f ∈ a.files) (hd:has a.dicts f.dict=true):up (cpD a a.dicts.length) (cpF a a.dicts.length f)=up a.dicts f:=by
 unfold up
 rw [(cpF_dict hf hd).1,(cpF_parts a _ f).2.2]
theorem cpD_mem {a:A} {d:ByteArray}:∀ {k:Nat},k<=a.dicts.length->d ∈ cpD a k->d ∈ a.dicts
 | 0,_,h=>by simp [cpD] at h
 | k+1,hk,h=>by
  rw [cpD] at h
  split at h
  · rcases List.mem_append.1 h with h | h
    · exact cpD_mem (by omega) h
    · rw [List.mem_singleton] at h
      subst h
      rw [show Tr.xa a.dicts k=a.dicts[k] by simp [Tr.xa,show k<a.dicts.length by omega]]
      exact List.getElem_mem _
  · exact cpD_mem (by omega) h
theorem okf_has {ds:List ByteArray} {f:F} (h:okf ds f=true):has ds f.dict=true:=by
 unfold okf at h
 rw [Bool.and_eq_true] at h
 exact h.1
theorem chk_cmp {a:A} (h:chk a=0):chk (cmpA a)=0:=by
 obtain ⟨hm,hg⟩:=chk_zero.1 h
 obtain ⟨m1,m2,m3⟩:=many_iff.1 hm
 have hp:=gdK_iff.1 hg
 have hl:=cpD_len a a.dicts.length
 have hr:=rkK_le a a.dicts.length
 rw [cmpA_is h,chk_zero]
 refine ⟨many_iff.2 ⟨by show (cpD _ _).length<=4;omega,by show (List.map _ _).length<=12;rw [List.length_map];exact m2,fun d hd=>m3 d (cpD_mem (Nat.le_refl _) hd)⟩,gdK_iff.2 ⟨?_,?_⟩⟩
 · intro g hg2
   obtain ⟨f,hf,rfl⟩:=List.mem_map.1 hg2
   have hf2:=hp.1 f hf
   have hh:=okf_has hf2.2
   refine ⟨by rw [cpF_name];exact hf2.1,?_⟩
   have h3:=hf2.2
   unfold okf at h3 |-
   show (has (cpD a a.dicts.length) _ && _)=true
   rw [(cpF_dict hf hh).2,up_cp hf hh,(cpF_parts a _ f).1,(cpF_parts a _ f).2.1]
   rw [Bool.and_eq_true] at h3
   rw [Bool.true_and]
   exact h3.2
 · show (List.map _ _).Pairwise _
   rw [List.pairwise_map]
   refine hp.2.imp fun {f g} h9=>?_
   rw [cpF_name,cpF_name];exact h9
theorem pos_map {fs:List F} (k:F->F) (hk:∀ f,(k f).name=f.name) (o:ByteArray):pos (fs.map k) o=pos fs o:=by
 unfold pos
 induction fs with
 | nil=>rfl
 | cons f fs ih =>
  rw [List.map_cons,List.takeWhile_cons,List.takeWhile_cons,hk]
  split
  · rw [List.length_cons,List.length_cons,ih]
  · rfl
theorem fa_map {fs:List F} (k:F->F) {i:Nat} (h:i<fs.length):fa (fs.map k) i=k (fa fs i):=by simp [fa,h]
theorem there_map {fs:List F} (k:F->F) (hk:∀ f,(k f).name=f.name) (o:ByteArray):there (fs.map k) o=there fs o:=by
 unfold there
 rw [pos_map k hk,List.length_map]
 by_cases h:pos fs o<fs.length
 · rw [fa_map k h,hk]
 · rw [decide_eq_false (by omega),decide_eq_false (by omega)]
theorem lk_map {fs:List F} (k:F->F) (hk:∀ f,(k f).name=f.name) (o:ByteArray):lk (fs.map k) o=(lk fs o).map k:=by
 unfold lk
 rw [there_map k hk,pos_map k hk]
 cases ht:there fs o with
 | true=>rw [if_pos rfl,if_pos rfl,fa_map k (there_parts ht).1];rfl
 | false=>rfl
theorem retE_zero {a:A} {size:Int} (h:retE a size=0):chk a=0/\0<=size/\size<=256/\a.dicts.length ≠ 4:=by
 unfold retE at h
 by_cases h1:chk a=0
 · rw [if_neg (fun h9=>h9 h1)] at h
   by_cases h2:0<=size/\size<=256
   · rw [if_pos h2] at h
     by_cases h3:a.dicts.length=4
     · rw [if_pos h3] at h;cases h
     · exact ⟨h1,h2.1,h2.2,h3⟩
   · rw [if_neg h2] at h;cases h
 · rw [if_pos h1] at h;exact absurd h h1
theorem retA_is {a:A} {size:Int} (h:retE a size=0):retA a size=⟨retD a size,a.files.map fun f=>pk (retD a size) f.name (tx a.dicts f) (a.dicts.length+1:Nat)⟩:=if_pos h
theorem okf_up {ds:List ByteArray} {f:F} (h:okf ds f=true):(up ds f).2=0:=by
 unfold okf at h
 rw [Bool.and_eq_true] at h
 exact (of_decide_eq_true h.2).1
theorem tx_size {a:A} (h:chk a=0) {f:F} (hf:f ∈ a.files):(tx a.dicts f).size<=512:=by
 obtain ⟨hm,hg⟩:=chk_zero.1 h
 exact Bk.unp_size (okf_up ((gdK_iff.1 hg).1 f hf).2)
theorem many_ret {a:A} {size:Int} (h:retE a size=0):many ⟨retD a size,a.files⟩=false:=by
 obtain ⟨h1,h2,h3,h4⟩:=retE_zero h
 obtain ⟨m1,m2,m3⟩:=many_iff.1 (chk_zero.1 h1).1
 refine many_iff.2 ⟨by show (a.dicts++[_]).length<=4;rw [List.length_append];simp;omega,m2,?_⟩
 intro d hd
 rcases List.mem_append.1 hd with hd | hd
 · exact m3 d hd
 · rw [List.mem_singleton] at hd
   subst hd
   have:=(Tr.trn_good (txs a) size.toNat).most
   omega
theorem chk_ret {a:A} {size:Int} (h:retE a size=0):chk (retA a size)=0:=by
 obtain ⟨h1,h2,h3,h4⟩:=retE_zero h
 have hm2:=many_ret h
 obtain ⟨m1,m2,m3⟩:=many_iff.1 hm2
 obtain ⟨hm,hg⟩:=chk_zero.1 h1
 have hp:=gdK_iff.1 hg
 rw [retA_is h,chk_zero]
 refine ⟨many_iff.2 ⟨m1,by show (List.map _ _).length<=12;rw [List.length_map];exact m2,m3⟩,gdK_iff.2 ⟨?_,?_⟩⟩
 · intro g hg2
   obtain ⟨f,hf,rfl⟩:=List.mem_map.1 hg2
   refine ⟨(hp.1 f hf).1,?_⟩
   exact okf_pk (a:=⟨retD a size,a.files⟩) hm2 f.name (tx a.dicts f) _ (tx_size h1 hf) (decide_eq_true ⟨by omega,by show _<=(((_++_:List ByteArray).length:Nat):Int);rw [List.length_append];simp⟩)
 · show (List.map _ _).Pairwise _
   rw [List.pairwise_map]
   exact hp.2
theorem get_ret {a:A} {size:Int} (h:retE a size=0) (o:ByteArray):getE (retA a size) o=getE a o/\getT (retA a size) o=getT a o:=by
 obtain ⟨h1,h2,h3,h4⟩:=retE_zero h
 have hc:=chk_ret h
 obtain ⟨hm,hg⟩:=chk_zero.1 h1
 have hl:lk (retA a size).files o=(lk a.files o).map (fun f=>pk (retD a size) f.name (tx a.dicts f) (a.dicts.length+1:Nat)):=by rw [retA_is h];exact lk_map (fun f=>pk (retD a size) f.name (tx a.dicts f) (a.dicts.length+1:Nat)) (fun f=>rfl) o
 rw [getE_lk _ hc,getT_lk _ hc,getE_lk _ h1,getT_lk _ h1,hl]
 cases hq:lk a.files o with
 | none=>exact ⟨rfl,rfl⟩
 | some g =>
  refine ⟨rfl,?_⟩
  obtain ⟨h5,_⟩:=(lk_iff (srt_of hg)).1 hq
  show tx (retA a size).dicts _=tx a.dicts g
  rw [retA_is h]
  show (up (retD a size) (pk (retD a size) g.name (tx a.dicts g) _)).1=_
  rw [up_pk (a:=⟨retD a size,a.files⟩) (many_ret h) _ _ _ (tx_size h1 h5)]
theorem txs_many {a:A} (h:chk a=0):(txs a).length<=12/\∀ t ∈ txs a,t.size<=512:=by
 obtain ⟨m1,m2,m3⟩:=many_iff.1 (chk_zero.1 h).1
 refine ⟨by unfold txs;rw [List.length_map];exact m2,fun t ht=>?_⟩
 obtain ⟨f,hf,rfl⟩:=List.mem_map.1 ht
 exact tx_size h hf
end Ar
end Go.Proofs.YtbjbjbpgmojcbacGreat
namespace Go.Proofs.YtbjbjbpgmojcbacGreat
open Go.RowKit
namespace Ar
def cpI (a:A) (k m:Nat):List F:=(a.files.take m).map (cpF a (k+1))++(a.files.drop m).map (cpF a k)
theorem cpI_len {a:A} {k m:Nat} (h:m<=a.files.length):(cpI a k m).length=a.files.length:=by
 unfold cpI
 rw [List.length_append,List.length_map,List.length_map,List.length_take,List.length_drop]
 omega
theorem cpI_zero (a:A) (k:Nat):cpI a k 0=a.files.map (cpF a k):=by simp [cpI]
theorem cpI_end (a:A) (k:Nat):cpI a k a.files.length=a.files.map (cpF a (k+1)):=by simp [cpI]
theorem cpF_other {a:A} {k:Nat} {f:F} (h:f.dict ≠ ((k+1:Nat):Int)):cpF a (k+1) f=cpF a k f:=by
 unfold cpF
 by_cases h1:1<=f.dict/\f.dict<=(k:Int)
 · rw [if_pos h1,if_pos ⟨h1.1,by omega⟩]
 · rw [if_neg h1,if_neg (fun h2=>h1 ⟨h2.1,by omega⟩)]
theorem cpF_hit {a:A} {k:Nat} {f:F} (h:f.dict=((k+1:Nat):Int)):cpF a (k+1) f={ f with dict:=(rkK a (k+1):Nat) }/\cpF a k f=f:=by
 unfold cpF
 constructor
 · rw [if_pos ⟨by omega,by omega⟩,h,Int.toNat_natCast]
 · rw [if_neg (fun h1=>by omega)]
theorem drop_fa {fs:List F} {m:Nat} (h:m<fs.length):fs.drop m=fa fs m :: fs.drop (m+1):=by
 rw [List.drop_eq_getElem_cons h,fa_get h]
theorem cpI_parts {a:A} {k m:Nat} (h:m<a.files.length):cpI a k m=(a.files.take m).map (cpF a (k+1))++cpF a k (fa a.files m) :: (a.files.drop (m+1)).map (cpF a k)/\cpI a k (m+1)=(a.files.take m).map (cpF a (k+1))++cpF a (k+1) (fa a.files m) :: (a.files.drop (m+1)).map (cpF a k):=by
 unfold cpI
 rw [drop_fa h,take_succ' h]
 simp
theorem cpI_no {a:A} {k m:Nat} (h:m<a.files.length) (hd:(fa a.files m).dict ≠ ((k+1:Nat):Int)):cpI a k (m+1)=cpI a k m:=by
 obtain ⟨h1,h2⟩:=cpI_parts (k:=k) h
 rw [h1,h2,cpF_other hd]
theorem cpI_yes {a:A} {k m:Nat} (h:m<a.files.length) (hd:(fa a.files m).dict=((k+1:Nat):Int)):cpI a k (m+1)=(cpI a k m).take m++{ fa (cpI a k m) m with dict:=(rkK a (k+1):Nat) } :: (cpI a k m).drop (m+1):=by
 obtain ⟨h1,h2⟩:=cpI_parts (k:=k) h
 obtain ⟨e1,e2⟩:=cpF_hit (a:=a) hd
 have hl:((a.files.take m).map (cpF a (k+1))).length=m:=by rw [List.length_map,List.length_take];omega
 rw [h1,h2,e1,e2]
 generalize (a.files.take m).map (cpF a (k+1))=P at *
 generalize (a.files.drop (m+1)).map (cpF a k)=R
 generalize fa a.files m=f
 subst hl
 have e3:fa (P++f :: R) P.length=f:=by simp [fa]
 rw [e3]
 simp
theorem cp_skip {a:A} {k:Nat} (h:used a ((k+1:Nat):Int)=false):cpD a (k+1)=cpD a k/\a.files.map (cpF a (k+1))=a.files.map (cpF a k):=by
 constructor
 · rw [cpD,if_neg (by rw [h];decide)]
 · apply List.map_congr_left
   intro f hf
   apply cpF_other
   intro e
   have:used a ((k+1:Nat):Int)=true:=by unfold used;rw [List.any_eq_true];exact ⟨f,hf,decide_eq_true e⟩
   rw [h] at this;cases this
theorem cp_take {a:A} {k:Nat} (h:used a ((k+1:Nat):Int)=true):cpD a (k+1)=cpD a k++[Tr.xa a.dicts k]:=by
 rw [cpD,if_pos h]
end Ar
theorem compact_bad (ad af:Option Addr) (cd cf:Nat) (a:Ar.A) (w:World) (h:ArV w ad af a) (hs:SaneA a) (hc:Ar.chk a ≠ 0) :
 Calls Tryz.prog 14 #[av ad cd af cf a] w fun e w'=>ArSaid w Ar.az (Ar.chk a) e w':=by
 have C1:Hid (∀ w',Below w.heap.size w w'->Calls Tryz.prog 24 #[av ad cd af cf a] w' fun e w2=>e=.returned (.int .i64 (Ar.chk a))/\Below w'.heap.size w' w2):=fun w' h9=>archCheck_any ad af cd cf a w' (h.below h9) hs
 have hQ:Hid (∀ w',Below w.heap.size w w'->ArSaid w Ar.az (Ar.chk a) (.returned (.tuple #[.agg #[.slice none 0 0,.slice none 0 0],.int .i64 (Ar.chk a)])) w'):=fun w' h9=>said_nil h9
 generalize ArSaid w Ar.az (Ar.chk a)=Q at *
 unfold av at C1 |-
 generalize Ar.chk a=E at *
 generalize a.dicts.length=D at *
 generalize a.files.length=N at *
 have e1:(E != 0)=true:=by simpa using hc
 have e2:(E == 0)=false:=by simpa using hc
 clear h hs
 go_enter Tryz.func14,Tryz.ntmps14
 go_wp2_with fail
 refine (C1.out _ (Fr.start w _ _).b).mono ?_
 rintro e w1 ⟨rfl,G1⟩
 have F1:=(Fr.start w _ _).next G1
 clear G1
 obtain ⟨b,a0,a1,r0,r1,z0,z1,hz⟩:=id F1
 go_wp2_with fail
 rw [F1.zero]
 exact bodyPost_ret (v:=.tuple #[.agg #[.slice none 0 0,.slice none 0 0],.int .i64 E]) (by simp [results,Tryz.results14,go_sem,F1.r0,F1.r1]) rfl (hQ.out _ F1.b)
theorem compact_ok (ad af:Option Addr) (cd cf:Nat) (a:Ar.A) (w:World) (h:ArV w ad af a) (hs:SaneA a) (hc:Ar.chk a=0) :
 Calls Tryz.prog 14 #[av ad cd af cf a] w fun e w'=>ArSaid w ⟨Ar.cpD a a.dicts.length,a.files.map (Ar.cpF a a.dicts.length)⟩ 0 e w':=by
 obtain ⟨i0,hi,hz0,hz1,hz2⟩:=info_parts (P:=Tryz.prog) (e:=9) (z:=.string ⟨#[]⟩) (size:=1) (bytes:=16) (by kernel_rfl)
 obtain ⟨m1,m2,m3⟩:=Ar.many_iff.1 (Ar.chk_zero.1 hc).1
 have C1:Hid (∀ w',Below w.heap.size w w'->Calls Tryz.prog 24 #[av ad cd af cf a] w' fun e w2=>e=.returned (.int .i64 (Ar.chk a))/\Below w'.heap.size w' w2):=fun w' h9=>archCheck_any ad af cd cf a w' (h.below h9) hs
 have C6:Hid (∀ w',Below w.heap.size w w'->Calls Tryz.prog 29 #[av ad cd af cf a] w' fun e w2=>∃ v1 v2,e=.returned (.agg #[v1,v2])/\ArOwn w'.heap.size w2 v1 v2 a/\Below w'.heap.size w' w2):=fun w' h9=>clone_arch ad af cd cf a w' (h.below h9) hs m1 m2
 have CU:Hid (∀ w' c k,Below w.heap.size w w'->w'.cell? ⟨c,0,none⟩=some (.int .i64 (k:Nat))->k<=4->Calls Tryz.prog 34 #[.slice af a.files.length cf,.func (.func 33) #[] #[.pointer (some ⟨c,0,none⟩)]] w' fun e w2=>e=.returned (.bool (Ar.used a ((k+1:Nat):Int)))/\Below w'.heap.size w' w2):=fun w' c k h9 h8 h7=>anyUsed_any af cf a c k w' (h.fs.below h9) m2 h8 h7
 have HX:Hid (∀ w',Below w.heap.size w w'->∀ k,k<a.dicts.length->∃ b off,ad=some ⟨b,off,none⟩/\b<w'.heap.size/\w'.cell? ⟨b,off+k,none⟩=some (.string (Tr.xa a.dicts k))):=fun w' hb k hk=>(h.ds.below hb).at hk
 have HFl:Hid (∀ w',Below w.heap.size w w'->∀ k,k<a.files.length->∃ b off,af=some ⟨b,off,none⟩/\b<w'.heap.size/\FlC w' b (off+k*5) (Ar.fa a.files k)):=fun w' h9 k hk=>(h.fs.below h9).at hk
 have HZ:Hid (∀ k,(Tr.xa a.dicts k).size<=281474976710656):=fun k=>Nat.le_trans (hs.ds k) (by decide)
 rw [hc] at C1
 unfold av at C1 C6 |-
 obtain ⟨D,hD⟩:∃ D,a.dicts.length=D:=⟨_,rfl⟩
 obtain ⟨N,hN⟩:∃ N,a.files.length=N:=⟨_,rfl⟩
 have HDD:Hid (a.dicts.length=D):=hD
 have HNN:Hid (a.files.length=N):=hN
 rw [hD] at C1 C6 HX m1 |-
 rw [hN] at C1 C6 CU HFl m2 |-
 have hQ:Hid (∀ v1 v2 w',w'.ownsRow w.heap.size 9 1 v1 (Ar.cpD a D).length ((Ar.cpD a D).map Value.string)->w'.ownsRow w.heap.size 47 5 v2 N (fcs (a.files.map (Ar.cpF a D)))->(∀ j,v1.ownBlock=some j->v2.ownBlock ≠ some j)->Below w.heap.size w w'->ArSaid w ⟨Ar.cpD a D,a.files.map (Ar.cpF a D)⟩ 0 (.returned (.tuple #[.agg #[v1,v2],.int .i64 0])) w'):=fun v1 v2 w' h1 h2 h3 h4=>⟨v1,v2,rfl,⟨h1,by show w'.ownsRow _ _ _ _ (a.files.map (Ar.cpF a D)).length _;rw [List.length_map,hN];exact h2,h3⟩,h4⟩
 generalize ArSaid w ⟨Ar.cpD a D,a.files.map (Ar.cpF a D)⟩ 0=Q at *
 have HI0:Hid (∀ k,fcs (a.files.map (Ar.cpF a k))=fcs (Ar.cpI a k 0)):=fun k=>by rw [Ar.cpI_zero]
 have HIN:Hid (∀ k,fcs (Ar.cpI a k N)=fcs (a.files.map (Ar.cpF a (k+1)))):=fun k=>by rw [<-hN,Ar.cpI_end]
 have H0:Hid (a.files.map (Ar.cpF a 0)=a.files):=by
  show _=_
  have:∀ f:Ar.F,Ar.cpF a 0 f=f:=fun f=>by unfold Ar.cpF;rw [if_neg (by omega)]
  rw [show Ar.cpF a 0=id from funext this,List.map_id]
 have HA:Hid (∀ lo w' v1 v2,ArOwn lo w' v1 v2 a->w'.ownsRow lo 9 1 v1 D (a.dicts.map Value.string)/\w'.ownsRow lo 47 5 v2 N (fcs (a.files.map (Ar.cpF a 0)))):=fun lo w' v1 v2 h9=>⟨by rw [<-hD];exact h9.o1,by rw [H0.out,<-hN];exact h9.o2⟩
 clear h hs hc m3 hD hN H0
 have hDi:(D:Int)<=4:=by omega
 have hNi:(N:Int)<=12:=by omega
 go_enter Tryz.func14,Tryz.ntmps14
 go_wp2_with fail
 refine (C1.out _ (Fr.start w _ _).b).mono ?_
 rintro e w1 ⟨rfl,G1⟩
 have F1:=(Fr.start w _ _).next G1
 clear G1 C1
 obtain ⟨b,a0,a1,r0,r1,z0,z1,hz⟩:=id F1
 go_wp2_with fail
 refine (C6.out _ F1.b).mono ?_
 rintro e w6 ⟨v1,v2,rfl,O6,G6⟩
 have F6:=F1.next G6
 obtain ⟨o1,o2⟩:=HA.out _ _ _ _ O6
 have hlo:w.heap.size+1<w1.heap.size:=F1.hz
 have hl0:w1.heap.size<=w6.heap.size:=G6.size
 generalize w1.heap.size=lo at o1 o2 hlo hl0
 clear G6 O6 HA b a0 a1 r0 r1 z0 z1 hz C6 F1
 obtain ⟨p1,q1,rfl,_⟩:=own_slice o1
 obtain ⟨p2,q2,rfl,_⟩:=own_slice o2
 obtain ⟨b,a0,a1,r0,r1,z0,z1,hz⟩:=id F6
 have hz6:w.heap.size<w6.heap.size:=by omega
 have S0:CpS w6 (w6.alloc (.cells #[.slice none 0 0,.slice p2 N q2] 33 (0,0))) w6.heap.size lo (.slice none 0 0) (.slice p2 N q2) (Ar.cpD a 0).length N ((Ar.cpD a 0).map Value.string) (fcs (a.files.map (Ar.cpF a 0))) :=
  ⟨World.cell?_alloc_new _ _ _ 0,World.cell?_alloc_new _ _ _ 1,World.frozen?_alloc_at _ _ _ _ rfl,World.frozen?_alloc_at _ _ _ _ rfl,⟨rfl,.inl ⟨rfl,rfl⟩⟩,o2.alloc _,fun j hj=>by simp [Value.ownBlock] at hj,by simp [Value.ownBlock],fun e=>by have:=(o2.lt _ e).2;omega,hl0,by simp,(Below.refl _ _).alloc hl0 _⟩
 clear o1 o2
 go_wp2_with fail
 clear b a0 a1 r0 r1 z0 z1 hz
 generalize (w6.alloc (.cells #[.slice none 0 0,.slice p2 N q2] 33 (0,0)))=w7 at *
 generalize w6.heap.size=C at *
 go_loopw [23] (fun i wr=>∃ (k:Nat) (v1:Value),k<=D/\i=.int .i64 k/\CpS w6 wr C lo v1 (.slice p2 N q2) (Ar.cpD a k).length N ((Ar.cpD a k).map Value.string) (fcs (a.files.map (Ar.cpF a k)))) (fun i _=>D - (intOf i).toNat)
 case atStart=>exact ⟨0,_,by omega,rfl,S0⟩
 case round =>
  clear S0
  obtain ⟨k,v1,hk2,rfl,S1⟩:=hrel
  have F7:=F6.keep S1.bel hlo
  obtain ⟨b,a0,a1,r0,r1,z0,z1,hz⟩:=id F7
  have hzw:w.heap.size<wr.heap.size:=by omega
  by_cases hlt:k<D
  · have d1:decide ((k:Int)<(D:Int))=true:=by simp;omega
    have d1':decide (k<D)=true:=by simp;omega
    have hki:(k:Int)<(D:Int):=by omega
    obtain ⟨b9,off,rfl,hbl,hc⟩:=HX.out wr b k hlt
    have xz:=HZ.out k
    generalize hX:Tr.xa a.dicts k=X at *
    have HXX:Hid (Tr.xa a.dicts k=X):=hX
    clear hX
    go_wp2_with fail
    have S2:=S1.below ((Below.refl _ _).alloc (Nat.le_refl _) (.cells #[.int .i64 (k:Int)] 3 (0,0)))
    have B2:=(F6.keep S2.bel hlo).b
    have hcb:(wr.alloc (.cells #[.int .i64 (k:Int)] 3 (0,0))).cell? ⟨wr.heap.size,0,none⟩=some (.int .i64 (k:Int)):=World.cell?_alloc_new _ _ _ 0
    refine (CU.out _ _ k B2 hcb (by omega)).mono ?_
    rintro e w2 ⟨rfl,G2⟩
    have S3:=S2.below G2
    have hcb2:=(G2.cell (p:=⟨wr.heap.size,0,none⟩) (by simp)).trans hcb
    have hlv1:v1.ownBlock ≠ some wr.heap.size:=fun e=>by have:=(S1.o1.lt _ e).2;omega
    have hlv2:(Value.slice p2 N q2).ownBlock ≠ some wr.heap.size:=fun e=>by have:=(S1.o2.lt _ e).2;omega
    have hCc:wr.heap.size ≠ C:=by have:=S1.hb;omega
    clear S1 S2 G2 hcb B2 F7 b a0 a1 r0 r1 z0 z1 hz hc hbl
    generalize wr.heap.size=c at *
    cases hu:Ar.used a ((k+1:Nat):Int) with
    | false =>
     obtain ⟨e1,e2⟩:=Ar.cp_skip hu
     have HE1:Hid (Ar.cpD a (k+1)=Ar.cpD a k):=e1
     have HE2:Hid (a.files.map (Ar.cpF a (k+1))=a.files.map (Ar.cpF a k)):=e2
     clear e1 e2 hu
     go_wp2_with fail
     go_roundw
     case rel=>exact ⟨k+1,v1,by omega,by go_num,by rw [HE1.out,HE2.out];exact S3⟩
     case measure=>simp [intOf];omega
    | true =>
     have HE1:Hid (Ar.cpD a (k+1)=Ar.cpD a k++[X]):=by show _=_;rw [Ar.cp_take hu,HXX.out]
     clear hu
     obtain ⟨L,hL⟩:∃ L,(Ar.cpD a k).length=L:=⟨_,rfl⟩
     have hL4:L<=4:=by
      have e1:=Ar.cpD_len a k
      have e2:=Ar.rkK_le a k
      omega
     have HL1:Hid ((Ar.cpD a (k+1)).length=L+1):=by show _=_;rw [HE1.out,List.length_append,hL];rfl
     have HM1:Hid ((Ar.cpD a (k+1)).map Value.string=(Ar.cpD a k).map Value.string++[.string X]):=by show _=_;rw [HE1.out,List.map_append];rfl
     have HY:Hid (∀ m,m<N->(Ar.fa a.files m).dict=((k+1:Nat):Int)->fcs (Ar.cpI a k (m+1))=fcs ((Ar.cpI a k m).take m++{ Ar.fa (Ar.cpI a k m) m with dict:=(L:Int)+1 } :: (Ar.cpI a k m).drop (m+1))):=fun m h1 h2=>by
      have e:((Ar.rkK a (k+1):Nat):Int)=(L:Int)+1:=by rw [<-Ar.cpD_len,HL1.out];rfl
      rw [Ar.cpI_yes (by rw [HNN.out];exact h1) h2,e]
     have HNo:Hid (∀ m,m<N->(Ar.fa a.files m).dict ≠ ((k+1:Nat):Int)->fcs (Ar.cpI a k (m+1))=fcs (Ar.cpI a k m)):=fun m h1 h2=>by rw [Ar.cpI_no (by rw [HNN.out];exact h1) h2]
     have HIl:Hid (∀ m,m<N->(Ar.cpI a k m).length=N):=fun m h1=>by rw [Ar.cpI_len (by rw [HNN.out];omega),HNN.out]
     rw [hL,HI0.out] at S3
     clear hL HE1 HXX
     have c0:=S3.c0
     have f0:=S3.f0
     have hLi:(L:Int)<=4:=by omega
     generalize (Ar.cpD a k).map Value.string=XS at *
     go_wp2_with fail
     go_region_law (first
      | (refine step_append_lies _ rfl _ _ 30 rfl lo 9 i0 (.string ⟨#[]⟩) 1 16 Tryz.underlying30 hi hz0 hz1 hz2 rfl (by decide) v1 _ _ rfl (S4.o1.alloc _) ⟨w4.heap.size,0,none⟩ 1 1 [.string X] rfl rfl (cell_one_new _ _ _) (by simp [Value.oneCell']) (by decide) (by unfold maxLen;omega) (by omega) (by simp;omega) _ rfl ?_;intro g cp w5 hown5 hgrow5 hat5 hlt5;obtain ⟨⟨⟨qq1,qq2⟩,S5⟩,K5⟩:=S4.put1 hgrow5 hown5 hat5;have hcb5:=K5 c _ hcb4 hCc hlv1;clear hgrow5 hown5 hat5 hlt5 K5)
      | (go_simp;go_at_call 35;refine (clone_any _ _ xz).mono ?_;rintro e w4 ⟨rfl,G4⟩;have G4':=(Below.trans ((Below.refl w2.heap.size w2).drew) G4);have S4:=S3.below G4';have c2:=S4.c0;have c3:∀ o,(w4.alloc o).cell? ⟨C,0,none⟩=some v1:=(fun o=>(World.cell?_alloc_lt _ _ _ (World.block_lt_of_cell? w4 _ c2)).trans c2);have hb4:=S4.hb;have hC4:=S4.hC;have hcb4:=(G4'.cell (p:=⟨c,0,none⟩) (World.block_lt_of_cell? w2 _ hcb2)).trans hcb2))
     all_goals
      clear S4 c2 c3 hb4 hC4 hcb4 G4 G4' S3 hcb2 c0 f0 qq1 qq2
      generalize (w5.setCell ⟨C,0,none⟩ (.slice (some ⟨g,0,none⟩) (L+1) cp))=wq at *
      have Fq:=F6.keep S5.bel hlo
      have a1:=Fq.a1
      clear Fq
      go_wp2_with fail
      clear a1
      go_loopw [44] (fun i wr=>∃ m:Nat,m<=N/\i=.int .i64 m/\CpS w6 wr C lo (.slice (some ⟨g,0,none⟩) (L+1) cp) (.slice p2 N q2) (L+1) N (XS++[.string X]) (fcs (Ar.cpI a k m))/\wr.cell? ⟨c,0,none⟩=some (.int .i64 (k:Int))) (fun i _=>N - (intOf i).toNat)
      case atStart=>exact ⟨0,by omega,rfl,S5,hcb5⟩
      case round =>
       clear S5 hcb5
       obtain ⟨m,hm2,rfl,S6,hcb6⟩:=hrel
       have B6:=(F6.keep S6.bel hlo).b
       by_cases hlt2:m<N
       · have d2:decide ((m:Int)<(N:Int))=true:=by simp;omega
         have d2':decide (m<N)=true:=by simp;omega
         have hmi:(m:Int)<(N:Int):=by omega
         obtain ⟨bf,of,rfl,hbl,hcf⟩:=HFl.out _ B6 m hlt2
         obtain ⟨x0,x1,x2,x3,x4⟩:=hcf
         have CK:=fun w' h9=>packs_any (Ar.fa a.files m) c k w' h9 (by omega)
         unfold fv at CK
         have hIl:=HIl.out m hlt2
         by_cases hd:(Ar.fa a.files m).dict=((k+1:Nat):Int)
         · have e1:=HY.out m hlt2 hd
           have HE:Hid (fcs (Ar.cpI a k (m+1))=fcs ((Ar.cpI a k m).take m++{ Ar.fa (Ar.cpI a k m) m with dict:=(L:Int)+1 } :: (Ar.cpI a k m).drop (m+1))):=e1
           rw [decide_eq_true hd] at CK
           clear e1 hd
           rcases S6.o2.2 with ⟨_,h0⟩ | ⟨g2,cap2,cur2,e,_⟩
           · omega
           simp only [Value.slice.injEq] at e
           obtain ⟨rfl,_,rfl⟩:=e
           generalize (Ar.fa a.files m).name=y0 at *
           generalize (Ar.fa a.files m).dict=y1 at *
           generalize (Ar.fa a.files m).size=y2 at *
           generalize (Ar.fa a.files m).sum=y3 at *
           generalize (Ar.fa a.files m).blk=y4 at *
           go_wp2_with fail
           have hcb7:=fun o=>(World.cell?_alloc_lt _ o _ (World.block_lt_of_cell? _ _ hcb6)).trans hcb6
           refine (CK _ (hcb7 _)).mono ?_
           rintro e w9 ⟨rfl,G9⟩
           have S7:=(S6.below ((Below.refl _ _).alloc (Nat.le_refl _) _)).below G9
           have hcb8:=(G9.cell (p:=⟨c,0,none⟩) (World.block_lt_of_cell? _ _ (hcb7 _))).trans (hcb7 _)
           have hIl':Hid ((Ar.cpI a k m).length=N):=hIl
           rw [<-hIl] at S7
           obtain ⟨S8,t1,t2⟩:=CpS.set1 ((L:Int)+1) S7 (i:=m) (by omega)
           have c0:=S7.c0
           have c1:=S7.c1
           rw [hIl] at c1 S8
           have hcb9:(w9.setCell ⟨g2,m*5+1,none⟩ (.int .i64 ((L:Int)+1))).cell? ⟨c,0,none⟩=some (.int .i64 (k:Int)):=cell_keep (setCell_grown w9 ⟨g2,m*5+1,none⟩ _) hcb8 (fun e=>hlv2 (show some g2=some c from e.symm))
           clear S6 S7 hcb6 hcb7 hcb8 G9 hIl x0 x1 x2 x3 x4 CK
           go_wp2_with fail
           go_roundw
           case rel=>exact ⟨m+1,by omega,by go_num,by rw [HE.out];exact S8,hcb9⟩
           case measure=>simp [intOf];omega
         · have e1:=HNo.out m hlt2 hd
           have HE:Hid (fcs (Ar.cpI a k (m+1))=fcs (Ar.cpI a k m)):=e1
           rw [decide_eq_false hd] at CK
           clear e1 hd
           generalize (Ar.fa a.files m).name=y0 at *
           generalize (Ar.fa a.files m).dict=y1 at *
           generalize (Ar.fa a.files m).size=y2 at *
           generalize (Ar.fa a.files m).sum=y3 at *
           generalize (Ar.fa a.files m).blk=y4 at *
           go_wp2_with fail
           have hcb7:=fun o=>(World.cell?_alloc_lt _ o _ (World.block_lt_of_cell? _ _ hcb6)).trans hcb6
           refine (CK _ (hcb7 _)).mono ?_
           rintro e w9 ⟨rfl,G9⟩
           have S7:=(S6.below ((Below.refl _ _).alloc (Nat.le_refl _) _)).below G9
           have hcb8:=(G9.cell (p:=⟨c,0,none⟩) (World.block_lt_of_cell? _ _ (hcb7 _))).trans (hcb7 _)
           clear S6 hcb6 hcb7 G9 hIl x0 x1 x2 x3 x4 CK
           go_wp2_with fail
           go_roundw
           case rel=>exact ⟨m+1,by omega,by go_num,by rw [HE.out];exact S7,hcb8⟩
           case measure=>simp [intOf];omega
       · obtain rfl:m=N:=by omega
         have d2:decide ((m:Int)<(m:Int))=false:=by simp
         rw [HIN.out,<-HM1.out,<-HL1.out] at S6
         clear hcb6 B6
         go_wp2_with fail
         go_roundw
         case rel=>exact ⟨k+1,_,by omega,by go_num,S6⟩
         case measure=>simp [intOf];omega
  · obtain rfl:k=D:=by omega
    have d1:decide ((k:Int)<(k:Int))=false:=by simp
    obtain ⟨Bz,Oz1,Oz2,Rz0,Rz1⟩:=put_end b S1.o1 S1.o2 hlo r0 r1
    obtain ⟨pp,qq,rfl,_⟩:=own_slice S1.o1
    have ne9:=S1.ne
    have c0:=S1.c0
    have c1:=S1.c1
    have hC2:=S1.hb
    clear S1
    go_wp2_with fail
    generalize (wr.setCell ⟨w.heap.size+1,0,none⟩ (.slice pp (Ar.cpD a k).length qq)).setCell ⟨w.heap.size+1,1,none⟩ (.slice p2 N q2)=wz at *
    exact bodyPost_ret (v:=.tuple #[.agg #[.slice pp (Ar.cpD a k).length qq,.slice p2 N q2],.int .i64 0]) (by simp [results,Tryz.results14,go_sem,Rz0,Rz1]) rfl (hQ.out _ _ _ Oz1 Oz2 ne9 Bz)
theorem archCompact_any (ad af:Option Addr) (cd cf:Nat) (a:Ar.A) (w:World) (h:ArV w ad af a) (hs:SaneA a) :
 Calls Tryz.prog 14 #[av ad cd af cf a] w fun e w'=>ArSaid w (Ar.cmpA a) (Ar.chk a) e w':=by
 by_cases hc:Ar.chk a=0
 · rw [Ar.cmpA_is hc,hc]
   exact compact_ok ad af cd cf a w h hs hc
 · have e:Ar.cmpA a=Ar.az:=by unfold Ar.cmpA;rw [if_neg hc]
   rw [e]
   exact compact_bad ad af cd cf a w h hs hc
end Go.Proofs.YtbjbjbpgmojcbacGreat
namespace Go.Proofs.YtbjbjbpgmojcbacGreat
open Go.RowKit
namespace Ar
def reF (a:A) (size:Int) (f:F):F:=pk (retD a size) f.name (tx a.dicts f) (a.dicts.length+1:Nat)
def reI (a:A) (size:Int) (m:Nat):List F:=(a.files.take m).map (reF a size)++a.files.drop m
theorem reI_len {a:A} {size:Int} {m:Nat} (h:m<=a.files.length):(reI a size m).length=a.files.length:=by
 unfold reI
 rw [List.length_append,List.length_map,List.length_take,List.length_drop]
 omega
theorem reI_zero (a:A) (size:Int):reI a size 0=a.files:=by simp [reI]
theorem reI_end (a:A) (size:Int):reI a size a.files.length=a.files.map (reF a size):=by simp [reI]
theorem reI_at {a:A} {size:Int} {m:Nat} (h:m<a.files.length):fa (reI a size m) m=fa a.files m/\reI a size (m+1)=(reI a size m).take m++reF a size (fa a.files m) :: (reI a size m).drop (m+1):=by
 have hl:((a.files.take m).map (reF a size)).length=m:=by rw [List.length_map,List.length_take];omega
 unfold reI
 rw [drop_fa h,take_succ' h,List.map_append]
 generalize (a.files.take m).map (reF a size)=P at *
 generalize fa a.files m=f at *
 subst hl
 constructor
 · simp [fa]
 · simp
theorem txs_none {a:A} (h:chk a=0):Tr.many (txs a)=false:=by
 obtain ⟨h1,h2⟩:=txs_many h
 unfold Tr.many
 rw [Bool.or_eq_false_iff]
 refine ⟨decide_eq_false (by omega),?_⟩
 have:∀ k,Tr.lgK (txs a) k=none:=by
  intro k
  induction k with
  | zero=>rfl
  | succ k ih =>
   rw [Tr.lgK,ih]
   simp only
   rw [if_neg]
   by_cases hk:k<(txs a).length
   · have:Tr.xa (txs a) k=(txs a)[k]:=by simp [Tr.xa,hk]
     rw [this]
     have:=h2 _ (List.getElem_mem hk)
     omega
   · have:Tr.xa (txs a) k=⟨#[]⟩:=by simp [Tr.xa,hk]
     rw [this]
     show ¬ 512<0
     omega
 rw [this];rfl
end Ar
theorem own_at {w:World} {lo g cap i:Nat} {fs:List Ar.F} (h:w.ownsRow lo 47 5 (.slice (some ⟨g,0,none⟩) fs.length cap) fs.length (fcs fs)) (hi:i<fs.length):(∀ j,j<5->w.cell? ⟨g,i*5+j,none⟩=(fc (Ar.fa fs i))[j]?)/\∀ o,w.frozen? ⟨g,o,none⟩=false:=by
 have hcl:=fcs_len fs
 rcases h.2 with ⟨h1,h2⟩ | ⟨g',cap',cur,h1,h2,h3,h4,h5,h6,h7⟩
 · omega
 simp only [Value.slice.injEq,Option.some.injEq,Addr.mk.injEq] at h1
 obtain ⟨⟨rfl,_⟩,_,rfl⟩:=h1
 refine ⟨fun j hj=>?_,frozenB h3⟩
 rw [cellB h3,<-Array.getElem?_toList]
 have e1:cur.toList[i*5+j]?=(fcs fs)[i*5+j]?:=by rw [<-h7,List.getElem?_take,if_pos (by omega)]
 have e2:fs=fs.take i++Ar.fa fs i :: fs.drop (i+1):=by
  have e3:Ar.fa fs i=fs[i]:=by simp [Ar.fa,hi]
  rw [e3,<-List.drop_eq_getElem_cons hi,List.take_append_drop]
 rw [e1,e2,fcs_append,List.getElem?_append_right (by rw [fcs_len,List.length_take];omega),fcs_len,List.length_take,show i*5+j - min i fs.length*5=j by omega,fcs,List.getElem?_append_left (by simp;omega),<-e2]
 rfl
theorem CpS.set5 {w0 wr:World} {C lo g cap n1 i:Nat} {v1:Value} {xs1:List Value} {fs:List Ar.F} (f:Ar.F) (h:CpS w0 wr C lo v1 (.slice (some ⟨g,0,none⟩) fs.length cap) n1 fs.length xs1 (fcs fs)) (hi:i<fs.length) :
 CpS w0 (w5s wr g (i*5) (.string f.name) (.int .i64 f.dict) (.int .i64 f.size) (.int .i64 f.sum) (.string f.blk)) C lo v1 (.slice (some ⟨g,0,none⟩) fs.length cap) n1 fs.length xs1 (fcs (fs.take i++f :: fs.drop (i+1))):=by
 have r1:=own_set5 f h.o2 hi
 have hsg:=w5s_grown wr g (i*5) (.string f.name) (.int .i64 f.dict) (.int .i64 f.size) (.int .i64 f.sum) (.string f.blk)
 have hgC:some C ≠ some g:=fun e=>h.a2 (show some g=some C from e.symm)
 have hg:=(h.o2.lt g rfl).1
 refine ⟨cell_keep hsg h.c0 hgC,cell_keep hsg h.c1 hgC,frozen_keep hsg h.hb h.f0 hgC,frozen_keep hsg h.hb h.f1 hgC,h.o1.kept hsg ?_,r1,h.ne,h.a1,h.a2,h.hC,Nat.lt_of_lt_of_le h.hb hsg.size,belowW5 h.bel g (i*5) _ _ _ _ _ hg⟩
 cases hv:v1.ownBlock with
 | none=>exact .inl rfl
 | some j=>exact .inr (fun e=>h.ne j hv e.symm)
end Go.Proofs.YtbjbjbpgmojcbacGreat
namespace Go.Proofs.YtbjbjbpgmojcbacGreat
open Go.RowKit
theorem ArOwn.hand {lo:Nat} {w:World} {v1 v2:Value} {a:Ar.A} (h:ArOwn lo w v1 v2 a):∃ ad cd af cf,(.agg #[v1,v2]:Value)=av ad cd af cf a/\ArV w ad af a:=by
 obtain ⟨ad,cd,rfl,_,hfar⟩:=tx_owns h.o1
 have o2:=h.o2
 rcases h.o2.2 with ⟨rfl,h2⟩ | ⟨g,cap,cur,rfl,h2,h3,_⟩
 · have e:a.files=[]:=List.length_eq_zero_iff.1 h2
   exact ⟨ad,cd,none,0,by unfold av;rw [h2],TxFar.sl hfar,.inl e⟩
 · refine ⟨ad,cd,some ⟨g,0,none⟩,cap,rfl,TxFar.sl hfar,.inr ⟨g,0,rfl,Array.getElem?_eq_some_iff.1 h3 |>.1,fun i hi=>?_⟩⟩
   obtain ⟨hat,_⟩:=own_at o2 hi
   rw [Nat.zero_add]
   exact ⟨hat 0 (by omega),hat 1 (by omega),hat 2 (by omega),hat 3 (by omega),hat 4 (by omega)⟩
theorem sane_of {a:Ar.A} (h1:a.dicts.length<=8796093022208) (h2:a.files.length<=8796093022208) (h3:∀ d ∈ a.dicts,d.size<=140737488355328) (h4:∀ f ∈ a.files,f.name.size<=140737488355328/\f.blk.size<=140737488355328):SaneA a:=by
 have hf:∀ i,(Ar.fa a.files i).name.size<=140737488355328/\(Ar.fa a.files i).blk.size<=140737488355328:=fun i=>by
  by_cases hi:i<a.files.length
  · rw [Ar.fa_get hi];exact h4 _ (List.getElem_mem hi)
  · have e:Ar.fa a.files i=Ar.fz:=by simp [Ar.fa,hi]
    rw [e];exact ⟨Nat.zero_le _,Nat.zero_le _⟩
 refine ⟨h1,h2,fun i=>?_,fun i=>(hf i).1,fun i=>(hf i).2⟩
 by_cases hi:i<a.dicts.length
 · have e:Tr.xa a.dicts i=a.dicts[i]:=by simp [Tr.xa,hi]
   rw [e];exact h3 _ (List.getElem_mem hi)
 · have e:Tr.xa a.dicts i=⟨#[]⟩:=by simp [Tr.xa,hi]
   rw [e];exact Nat.zero_le _
theorem SaneA.mem {a:Ar.A} (h:SaneA a):(∀ d ∈ a.dicts,d.size<=140737488355328)/\∀ f ∈ a.files,f.name.size<=140737488355328/\f.blk.size<=140737488355328:=by
 constructor
 · intro d hd
   obtain ⟨i,hi,rfl⟩:=List.getElem_of_mem hd
   have:=h.ds i
   simpa [Tr.xa,hi] using this
 · intro f hf
   obtain ⟨i,hi,rfl⟩:=List.getElem_of_mem hf
   have h1:=h.nm i
   have h2:=h.bk i
   rw [Ar.fa_get hi] at h1 h2
   exact ⟨h1,h2⟩
theorem sane_az:SaneA Ar.az:=sane_of (by decide) (by decide) (fun d hd=>by cases hd) (fun f hf=>by cases hf)
theorem putE_zero {a:Ar.A} {name text:ByteArray} {dict:Int} (h:Ar.putE a name text dict=0):Ar.chk a=0/\Ar.isNm name=true/\Ar.has a.dicts dict=true/\text.size<=512:=by
 unfold Ar.putE at h
 by_cases hc:Ar.chk a=0
 · rw [if_neg (fun h9=>h9 hc)] at h
   cases hm:Ar.isNm name with
   | false=>rw [if_pos hm] at h;cases h
   | true =>
    rw [if_neg (by rw [hm];decide)] at h
    cases hd:Ar.has a.dicts dict with
    | false=>rw [if_pos hd] at h;cases h
    | true =>
     rw [if_neg (by rw [hd];decide)] at h
     refine ⟨hc,rfl,rfl,?_⟩
     by_cases hl:512<text.size
     · rw [if_pos (.inl hl)] at h;cases h
     · omega
 · rw [if_pos hc] at h;exact absurd h hc
theorem SaneA.put {a:Ar.A} (h:SaneA a) {name text:ByteArray} {dict:Int} (hn:name.size<=140737488355328):SaneA (Ar.putA a name text dict):=by
 by_cases he:Ar.putE a name text dict=0
 · obtain ⟨hc,_,_,ht⟩:=putE_zero he
   obtain ⟨m1,m2,m3⟩:=Ar.many_iff.1 (Ar.chk_zero.1 hc).1
   have e:Ar.putA a name text dict=⟨a.dicts,Ar.putF a.files (Ar.pk a.dicts name text dict)⟩:=by unfold Ar.putA;rw [if_pos he]
   rw [e]
   have hb:(Ar.pk a.dicts name text dict).blk.size<=513:=by
    have:=(Bk.unp_pak (Ar.dct_size (Ar.chk_zero.1 hc).1 dict) ht).2.2
    show (Bk.pak (Ar.dct a.dicts dict) text).1.size<=513
    omega
   have hp:=Ar.pos_le a.files name
   refine sane_of (by show a.dicts.length<=_;omega) ?_ h.mem.1 (fun f hf=>?_)
   · show (Ar.putF a.files (Ar.pk a.dicts name text dict)).length<=_
     unfold Ar.putF
     rw [List.length_append,List.length_cons,List.length_take,List.length_drop]
     omega
   · have hf':f ∈ Ar.putF a.files (Ar.pk a.dicts name text dict):=hf
     unfold Ar.putF at hf'
     rcases List.mem_append.1 hf' with hf' | hf'
     · exact h.mem.2 f (List.mem_of_mem_take hf')
     · rcases List.mem_cons.1 hf' with rfl | hf'
       · exact ⟨hn,by omega⟩
       · exact h.mem.2 f (List.mem_of_mem_drop hf')
 · have e:Ar.putA a name text dict=Ar.az:=by unfold Ar.putA;rw [if_neg he]
   rw [e];exact sane_az
theorem SaneA.drop {a:Ar.A} (h:SaneA a) (name:ByteArray):SaneA (Ar.dropA a name):=by
 unfold Ar.dropA
 split
 · refine sane_of h.nd ?_ h.mem.1 (fun f hf=>?_)
   · show (a.files.take _++a.files.drop _).length<=_
     rw [List.length_append,List.length_take,List.length_drop]
     have:=h.nf
     omega
   · have hf':f ∈ a.files.take (Ar.pos a.files name)++a.files.drop (Ar.pos a.files name+1):=hf
     rcases List.mem_append.1 hf' with hf' | hf'
     · exact h.mem.2 f (List.mem_of_mem_take hf')
     · exact h.mem.2 f (List.mem_of_mem_drop hf')
 · exact sane_az
theorem SaneA.cmp {a:Ar.A} (h:SaneA a):SaneA (Ar.cmpA a):=by
 unfold Ar.cmpA
 split
 · refine sane_of ?_ (by show (a.files.map _).length<=_;rw [List.length_map];exact h.nf) (fun d hd=>h.mem.1 d (Ar.cpD_mem (Nat.le_refl _) hd)) (fun f hf=>?_)
   · show (Ar.cpD a a.dicts.length).length<=_
     rw [Ar.cpD_len]
     exact Nat.le_trans (Ar.rkK_le a _) h.nd
   · obtain ⟨f',hf',rfl⟩:=List.mem_map.1 hf
     rw [Ar.cpF_name,(Ar.cpF_parts a _ f').2.2]
     exact h.mem.2 f' hf'
 · exact sane_az
theorem SaneA.ret {a:Ar.A} (h:SaneA a) (size:Int):SaneA (Ar.retA a size):=by
 by_cases he:Ar.retE a size=0
 · obtain ⟨hc,_,_,_⟩:=Ar.retE_zero he
   have hmr:=Ar.many_ret he
   obtain ⟨r1,r2,r3⟩:=Ar.many_iff.1 hmr
   rw [Ar.retA_is he]
   refine sane_of (Nat.le_trans r1 (by decide)) (by show (a.files.map _).length<=_;rw [List.length_map];exact h.nf) (fun d hd=>Nat.le_trans (r3 d hd) (by decide)) (fun f hf=>?_)
   obtain ⟨f',hf',rfl⟩:=List.mem_map.1 hf
   refine ⟨(h.mem.2 f' hf').1,?_⟩
   have:=(Bk.unp_pak (Ar.dct_size hmr (a.dicts.length+1:Nat)) (Ar.tx_size hc hf')).2.2
   have ht:=Ar.tx_size hc hf'
   show (Bk.pak (Ar.dct (Ar.retD a size) (a.dicts.length+1:Nat)) (Ar.tx a.dicts f')).1.size<=_
   have e:(Bk.pak (Ar.dct (Ar.retD a size) (a.dicts.length+1:Nat)) (Ar.tx a.dicts f')).1.size<=513:=by
    have h9:(Bk.pak (Ar.dct (⟨Ar.retD a size,a.files⟩:Ar.A).dicts (a.dicts.length+1:Nat)) (Ar.tx a.dicts f')).1.size<=(Ar.tx a.dicts f').size+1:=this
    exact Nat.le_trans h9 (by omega)
   omega
 · have e:Ar.retA a size=Ar.az:=by unfold Ar.retA;rw [if_neg he]
   rw [e];exact sane_az
end Go.Proofs.YtbjbjbpgmojcbacGreat
namespace Go.Proofs.YtbjbjbpgmojcbacGreat
namespace Ar
def tA:ByteArray:=⟨#[116,104,101,32,115,97,109,101,32,119,111,114,100,115,44,32,116,104,101,32,115,97,109,101,32,119,111,114,100,115]⟩
def tB:ByteArray:=⟨#[116,104,101,32,115,97,109,101,32,119,111,114,100,115,44,32,111,114,32,111,116,104,101,114,115]⟩
def A1:A:=putA az ⟨#[97]⟩ tA 0
def A2:A:=putA A1 ⟨#[98]⟩ tB 0
def A3:A:=retA A2 32
theorem e1:putE az ⟨#[97]⟩ tA 0=0:=by kernel_rfl
theorem e2:putE A1 ⟨#[98]⟩ tB 0=0:=by kernel_rfl
theorem e3:retE A2 32=0:=by kernel_rfl
end Ar
end Go.Proofs.YtbjbjbpgmojcbacGreat
namespace Go.Proofs.YtbjbjbpgmojcbacGreat
namespace Ar
theorem c3:chk A3=0:=chk_ret e3
theorem d3:A3.dicts.length=1:=by kernel_rfl
theorem x3:(Tr.xa A3.dicts 0).size=32:=by kernel_rfl
theorem d4:(cmpA (dropA A3 ⟨#[97]⟩)).dicts.length=1:=by kernel_rfl
theorem p3:(putA A3 ⟨#[99]⟩ ⟨#[]⟩ 0).files.length=3:=by kernel_rfl
theorem p3e:putE A3 ⟨#[99]⟩ ⟨#[]⟩ 0=0:=by kernel_rfl
theorem n4:decide (32<szN (cmpA (dropA A3 ⟨#[97]⟩)))=true:=by kernel_rfl
end Ar
end Go.Proofs.YtbjbjbpgmojcbacGreat
namespace Go.Proofs.YtbjbjbpgmojcbacGreat
open Go.RowKit
namespace Tr
def fnK (L:List ByteArray) (d:ByteArray):Nat->Option Nat
 | 0=>none
 | k+1=>match fnK L d k with
  | some i=>some i
  | none=>if st (xa L k) d=true then none else some k
theorem fnK_some {L:List ByteArray} {d:ByteArray} {k i:Nat} (h:fnK L d k=some i):∀ j,fnK L d (k+j)=some i:=by
 intro j
 induction j with
 | zero=>exact h
 | succ j ih=>rw [<-Nat.add_assoc,fnK,ih]
theorem fnK_spec {L:List ByteArray} {d:ByteArray}:∀ {k:Nat},(match fnK L d k with | none=>∀ j,j<k->st (xa L j) d=true | some i=>i<k/\st (xa L i) d=false/\∀ j,j<i->st (xa L j) d=true)
 | 0=>by intro j h;omega
 | k+1=>by
  have ih:=fnK_spec (L:=L) (d:=d) (k:=k)
  rw [fnK]
  cases h:fnK L d k with
  | some i=>rw [h] at ih;exact ⟨by have:=ih.1;omega,ih.2⟩
  | none =>
   rw [h] at ih
   simp only at ih |-
   by_cases hs:st (xa L k) d=true
   · rw [if_pos hs]
     intro j hj
     by_cases e:j=k
     · subst e;exact hs
     · exact ih j (by omega)
   · rw [if_neg hs]
     exact ⟨by omega,by simpa using hs,ih⟩
def fix (L:List ByteArray) (d:ByteArray):Int:=match fnK L d L.length with | none=>-1 | some i=>(i:Int)
end Tr
theorem notIn_any (p d:ByteArray) (bx:Nat) (w:World) (hc:w.cell? ⟨bx,0,none⟩=some (.string d)) (hM:Mx w) (hd:d.size<=4000000000) (hp:0<p.size) :
 Calls Tryz.prog 66 #[.string p,.pointer (some ⟨bx,0,none⟩)] w fun e w'=>e=.returned (.bool (!Tr.st p d))/\w'=w:=by
 have c1:=contains_any d p w hM hd hp
 generalize Tr.st p d=r at *
 go_enter Tryz.func66,Tryz.ntmps66
 go_wp2_with fail
 refine c1.mono ?_
 rintro e w2 ⟨rfl,rfl⟩
 go_wp2_with fail
 go_ret
 exact ⟨rfl,rfl⟩
theorem firstNot_some (L:List ByteArray) (d:ByteArray) (b off cap bx:Nat) (w:World) (hx:Tr.TxAt w b off L) (hn:L.length<=100000) (hc:w.cell? ⟨bx,0,none⟩=some (.string d)) (hM:Mx w) (hd:d.size<=4000000000) (hp:∀ i,i<L.length->(Tr.xa L i).size=4) :
 Calls Tryz.prog 65 #[.slice (some ⟨b,off,none⟩) L.length cap,.func (.func 66) #[] #[.pointer (some ⟨bx,0,none⟩)]] w fun e w'=>e=.returned (.int .i64 (Tr.fix L d))/\w'=w:=by
 have HX:Hid (∀ i,i<L.length->w.cell? ⟨b,off+i,none⟩=some (.string (Tr.xa L i))):=hx.2
 have HP:Hid (∀ i,i<L.length->Calls Tryz.prog 66 #[.string (Tr.xa L i),.pointer (some ⟨bx,0,none⟩)] w fun e w'=>e=.returned (.bool (!Tr.st (Tr.xa L i) d))/\w'=w):=fun i hi=>notIn_any _ d bx w hc hM hd (by rw [hp i hi];omega)
 clear hp hc hM hx
 obtain ⟨r,hr⟩:∃ r,Tr.fix L d=r:=⟨_,rfl⟩
 rw [hr]
 have Hr:Hid ((match Tr.fnK L d L.length with | none=>(-1:Int) | some i=>(i:Int))=r):=hr
 clear hr
 go_enter Tryz.func65,Tryz.ntmps65
 go_wp2_with fail
 go_loopw [8] (fun i wr=>∃ k:Nat,k<=L.length/\i=.int .i64 k/\Hid (Tr.fnK L d k=none)/\wr=w) (fun i _=>L.length - (intOf i).toNat)
 case atStart=>exact ⟨0,by omega,rfl,rfl,rfl⟩
 case round =>
  obtain ⟨k,hk2,rfl,HL,rfl⟩:=hrel
  by_cases hlt:k<L.length
  · have d1:decide ((k:Int)<(L.length:Int))=true:=by simp;omega
    have d1':decide (k<L.length)=true:=by simp;omega
    have hki:(k:Int)<(L.length:Int):=by omega
    have c1:=HX.out k hlt
    have c2:=HP.out k hlt
    cases hs:Tr.st (Tr.xa L k) d with
    | false =>
     have HN:Hid (Tr.fnK L d (k+1)=some k):=by show _=_;rw [Tr.fnK,HL.out];simp only;rw [hs];rfl
     have HR:Hid ((k:Int)=r):=by
      have h9:=Tr.fnK_some HN.out (L.length - (k+1))
      rw [show k+1+(L.length - (k+1))=L.length by omega] at h9
      have:=Hr.out
      rw [h9] at this
      exact this
     rw [hs] at c2
     generalize Tr.xa L k=X at *
     clear HN hs
     go_wp2_with fail
     refine c2.mono ?_
     rintro e w2 ⟨rfl,rfl⟩
     go_wp2_with fail
     go_ret
     exact ⟨congrArg (fun x=>Ending.returned (Value.int .i64 x)) HR.out,rfl⟩
    | true =>
     have HN:Hid (Tr.fnK L d (k+1)=none):=by show _=_;rw [Tr.fnK,HL.out];exact if_pos hs
     rw [hs] at c2
     generalize Tr.xa L k=X at *
     clear hs
     go_wp2_with fail
     refine c2.mono ?_
     rintro e w2 ⟨rfl,rfl⟩
     go_wp2_with fail
     go_roundw
     case rel=>exact ⟨k+1,by omega,by go_num,HN,by trivial⟩
     case measure=>simp [intOf];omega
  · obtain rfl:k=L.length:=by omega
    have HR:Hid ((-1:Int)=r):=by have:=Hr.out;rw [HL.out] at this;exact this
    have d1:decide ((L.length:Int)<(L.length:Int))=false:=by simp
    clear Hr
    go_wp2_with fail
    go_ret
    exact ⟨congrArg (fun x=>Ending.returned (Value.int .i64 x)) HR.out,rfl⟩
theorem firstNot_nil (ad:Option Addr) (cap:Nat) (fv:Value) (w:World) :
 Calls Tryz.prog 65 #[.slice ad 0 cap,fv] w fun e w'=>e=.returned (.int .i64 (-1))/\w'=w:=by
 go_enter Tryz.func65,Tryz.ntmps65
 go_wp2_with fail
 go_loopw [8] (fun i wr=>i=.int .i64 0/\wr=w) (fun i _=>0)
 case atStart=>exact ⟨rfl,rfl⟩
 case round =>
  obtain ⟨rfl,rfl⟩:=hrel
  go_wp2_with fail
  go_ret
  exact ⟨rfl,rfl⟩
theorem firstNot_any (lo:Nat) (L:List ByteArray) (d:ByteArray) (ad:Option Addr) (cap bx:Nat) (w:World) (hx:Tr.TxFar lo w ad L) (hn:L.length<=100000) (hc:w.cell? ⟨bx,0,none⟩=some (.string d)) (hM:Mx w) (hd:d.size<=4000000000) (hp:∀ i,i<L.length->(Tr.xa L i).size=4) :
 Calls Tryz.prog 65 #[.slice ad L.length cap,.func (.func 66) #[] #[.pointer (some ⟨bx,0,none⟩)]] w fun e w'=>e=.returned (.int .i64 (Tr.fix L d))/\w'=w:=by
 rcases hx with rfl | ⟨b,off,rfl,_,h2⟩
 · exact firstNot_nil ad cap _ w
 · exact firstNot_some L d b off cap bx w h2 hn hc hM hd hp
end Go.Proofs.YtbjbjbpgmojcbacGreat
namespace Go.Proofs.YtbjbjbpgmojcbacGreat
open Go.RowKit
namespace Tr
theorem TxFar.set {lo:Nat} {w:World} {ad:Option Addr} {xs:List ByteArray} (h:TxFar lo w ad xs) {bx:Nat} (hb:bx<lo) (v:Value):TxFar lo (w.setCell ⟨bx,0,none⟩ v) ad xs:=by
 rcases h with h | ⟨b,off,h1,h2,h3⟩
 · exact .inl h
 · refine .inr ⟨b,off,h1,h2,by simpa using h3.1,fun i hi=>?_⟩
   exact (World.cell?_setCell_other w _ _ _ (by intro e;have:=congrArg Addr.block e;simp at this;omega)).trans (h3.2 i hi)
theorem TxFar.drop {lo:Nat} {w:World} {b off:Nat} {xs:List ByteArray} (h2:lo<=b) (h:TxAt w b off xs) (j:Nat):TxFar lo w (some ⟨b,off+j,none⟩) (xs.drop j):=by
 refine .inr ⟨b,off+j,rfl,h2,h.1,fun i hi=>?_⟩
 rw [List.length_drop] at hi
 rw [show off+j+i=off+(j+i) by omega,h.2 (j+i) (by omega)]
 simp [xa]
def slen:Value->Nat
 | .slice _ n _=>n
 | _=>0
theorem xa_get {L:List ByteArray} {i:Nat} (h:i<L.length):xa L i=L[i]:=by simp [xa,h]
theorem rk_step {xs pre P:List ByteArray} {d:ByteArray} (h:Rk xs (pre++P)) (hpre:∀ p,p ∈ pre->st p d=true) {i:Nat} (hf:fnK P d P.length=some i) :
 i<P.length/\best xs d=xa P i/\(xa P i).size=4/\(∀ p,p ∈ pre++P.take (i+1)->st p (xa P i++d)=true):=by
 have hs:=fnK_spec (L:=P) (d:=d) (k:=P.length)
 rw [hf] at hs
 obtain ⟨h1,h2,h3⟩:=hs
 have hm:xa P i ∈ pre++P:=by rw [xa_get h1];exact List.mem_append_right _ (List.getElem_mem h1)
 have h4:=((h.2 _).1 hm).1
 refine ⟨h1,?_,h4,?_⟩
 · have hi:pre.length+i<(pre++P).length:=by rw [List.length_append];omega
   have e:(pre++P)[pre.length+i]=xa P i:=by rw [xa_get h1,List.getElem_append_right (by omega)];simp
   rw [<-e]
   refine rk_first h hi (by rw [e];exact h2) fun k hk=>?_
   by_cases hk2:k<pre.length
   · rw [List.getElem_append_left hk2];exact hpre _ (List.getElem_mem hk2)
   · rw [List.getElem_append_right (by omega),<-xa_get];exact h3 _ (by omega)
 · intro p hp
   rw [List.mem_append] at hp
   rcases hp with hp | hp
   · exact st_append (hpre p hp)
   · obtain ⟨k,hk,rfl⟩:=List.mem_iff_getElem.1 hp
     rw [List.length_take] at hk
     rw [List.getElem_take,<-xa_get]
     by_cases e:k=i
     · subst e;exact st_own _ _
     · exact st_append (h3 k (by omega))
theorem rk_stop {xs pre P:List ByteArray} {d:ByteArray} (h:Rk xs (pre++P)) (hpre:∀ p,p ∈ pre->st p d=true) (hf:fnK P d P.length=none):(best xs d).size=0:=by
 have hs:=fnK_spec (L:=P) (d:=d) (k:=P.length)
 rw [hf] at hs
 refine rk_none h fun k hk=>?_
 by_cases hk2:k<pre.length
 · rw [List.getElem_append_left hk2];exact hpre _ (List.getElem_mem hk2)
 · rw [List.length_append] at hk
   rw [List.getElem_append_right (by omega),<-xa_get];exact hs _ (by omega)
theorem many_false {xs:List ByteArray} (h:many xs=false):xs.length<=12/\∀ i,(xa xs i).size<=512:=by
 rw [many,Bool.or_eq_false_iff,decide_eq_false_iff_not] at h
 refine ⟨by omega,fun i=>?_⟩
 apply Nat.le_of_not_lt
 intro hlt
 by_cases hi:i<xs.length
 · have:∀ k,i<k->(lgK xs k).isSome=true:=by
    intro k hk
    induction k with
    | zero=>omega
    | succ k ih =>
     rw [lgK]
     by_cases e:i=k
     · subst e
       cases lgK xs i with
       | some _=>rfl
       | none=>simp only;rw [if_pos hlt];rfl
     · have:=ih (by omega)
       cases hq:lgK xs k with
       | some _=>rfl
       | none=>rw [hq] at this;cases this
   rw [this _ hi] at h
   cases h.2
 · have:xa xs i=⟨#[]⟩:=by simp [xa,show xs.length<=i by omega]
   rw [this] at hlt
   have:(⟨#[]⟩:ByteArray).size=0:=rfl
   omega
end Tr
theorem train_ok (xs:List ByteArray) (size:Int) (ad:Option Addr) (cap:Nat) (w:World) (hx:TxSl w ad xs) (hB:∀ i,(Tr.xa xs i).size<=140737488355328) (hM:Mx w) (hm:Tr.many xs=false) (h0:0<=size) (h1:size<=256) :
 Calls Tryz.prog 32 #[.slice ad xs.length cap,.int .i64 size] w fun e w'=>e=.returned (.tuple #[.string (Tr.trn xs size.toNat),.int .i64 0])/\Below w.heap.size w w':=by
 obtain ⟨hn,hX⟩:=Tr.many_false hm
 have c1:=tooMany_any xs ad cap w hx hB
 rw [hm] at c1
 have HR:Hid (∀ w',Below w.heap.size w w'->Calls Tryz.prog 64 #[.slice ad xs.length cap] w' fun e w2=>∃ ad' cap' L,e=.returned (.slice ad' (L:List ByteArray).length cap')/\L.length<=cap'/\L.length<=6144/\Tr.TxFar w'.heap.size w2 ad' L/\Tr.Rk xs L/\Below w'.heap.size w' w2):=fun w' hb=>ranked_any xs ad cap w' (hx.below hb) hn hX (hM.below hb)
 have HM:Hid (∀ w',Below w.heap.size w w'->Mx w'):=fun w' hb=>hM.below hb
 have d1:decide (size<0)=false:=decide_eq_false (by omega)
 have d2:decide ((256:Int)<size)=false:=decide_eq_false (by omega)
 have HG:=Tr.trn_good xs size.toNat
 obtain ⟨R,hR⟩:∃ R,Tr.trn xs size.toNat=R:=⟨_,rfl⟩
 rw [hR] at HG |-
 have HR0:Hid (Tr.tro xs size.toNat 65 ⟨#[]⟩=R):=hR
 have hRs:R.size<=256:=by have:=HG.most;omega
 clear hX hx hB hM hm hR HG
 go_enter Tryz.func32,Tryz.ntmps32
 go_wp2_with fail
 refine c1.mono ?_
 rintro e w1 ⟨rfl,B1⟩
 clear c1
 have c2:=HR.out (w1.alloc (.cells #[.string ⟨#[]⟩] 9 (0,0))) (B1.alloc B1.size _)
 go_wp2_with fail
 refine c2.mono ?_
 rintro e w2 ⟨ad',cap',L,rfl,hLc,hL6,hT,hRk,B2⟩
 clear c2 HR
 have hcx:w2.cell? ⟨w1.heap.size,0,none⟩=some (.string ⟨#[]⟩):=by
  rw [B2.cell (p:=⟨w1.heap.size,0,none⟩) (by simp)]
  exact cell_one_new _ _ _ 0 _ rfl
 have hfx:w2.frozen? ⟨w1.heap.size,0,none⟩=false:=by
  rw [B2.frozen (p:=⟨w1.heap.size,0,none⟩) (by simp)]
  exact World.frozen?_alloc_at _ _ _ _ rfl
 have B3:Below w.heap.size w w2:=bch (B1.alloc B1.size (.cells #[.string ⟨#[]⟩] 9 (0,0))) B2 (Nat.le_refl _)
 have hlo:w1.heap.size<(w1.alloc (.cells #[.string ⟨#[]⟩] 9 (0,0))).heap.size:=by simp
 have hwb:=B1.size
 generalize (w1.alloc (.cells #[.string ⟨#[]⟩] 9 (0,0))).heap.size=lo at *
 generalize w1.heap.size=bx at *
 clear B1 B2
 have HRk:Hid (Tr.Rk xs L):=hRk
 clear hRk
 go_wp2_with fail
 go_loopw [7] (fun v wr=>∃ (pre P:List ByteArray) (d:ByteArray) (f:Nat) (ad2:Option Addr) (c:Nat),v=.slice ad2 P.length c/\P.length<=c/\P.length<=6144/\Hid (pre++P=L)/\Tr.TxFar lo wr ad2 P/\Hid (∀ p,p ∈ pre->Tr.st p d=true)/\Hid (Tr.tro xs size.toNat f d=R)/\Hid (4*f+d.size=260)/\d.size<=256/\wr.cell? ⟨bx,0,none⟩=some (.string d)/\wr.frozen? ⟨bx,0,none⟩=false/\Below w.heap.size w wr)
  (fun v _=>Tr.slen v)
 case atStart=>exact ⟨[],L,⟨#[]⟩,65,ad',cap',rfl,hLc,hL6,rfl,hT,(fun p hp=>by cases hp),HR0,rfl,by decide,hcx,hfx,B3⟩
 case round =>
  clear hcx hfx hT B3 hLc hL6
  obtain ⟨pre,P,d,f,ad2,c,rfl,hPc,hP6,HPL,hT,Hpre,HRd,Hf,hd,hcx,hfx,B3⟩:=hrel
  by_cases hfit:(d.size:Int)+4<=size
  · have e1:decide ((d.size:Int)+4<=size)=true:=decide_eq_true hfit
    have hrk:Tr.Rk xs (pre++P):=by rw [HPL.out];exact HRk.out
    have hp4:∀ i,i<P.length->(Tr.xa P i).size=4:=fun i hi=>((hrk.2 _).1 (List.mem_append_right _ (by rw [Tr.xa_get hi];exact List.getElem_mem hi))).1
    have c3:=firstNot_any lo P d ad2 c bx wr hT (by omega) hcx (HM.out _ B3) (by omega) hp4
    unfold Tr.fix at c3
    cases hq:Tr.fnK P d P.length with
    | none =>
     rw [hq] at c3
     simp only at c3
     have HN:Hid (d=R):=by
      have h9:=HRd.out
      rw [Tr.tro_none (Tr.rk_stop hrk Hpre.out hq)] at h9
      exact h9
     clear hq hp4 hrk
     have c4:=fun w=>clone_any d w (by omega)
     go_wp2_with fail
     refine c3.mono ?_
     rintro e w3 ⟨rfl,rfl⟩
     go_wp2_with fail
     refine (c4 _).mono ?_
     rintro e w4 ⟨rfl,G⟩
     go_wp2_with fail
     go_ret2
     exact ⟨by rw [HN.out];rfl,bch B3 G (Nat.le_refl _)⟩
    | some i =>
     rw [hq] at c3
     simp only at c3
     obtain ⟨h2,h3,h4,h5⟩:=Tr.rk_step hrk Hpre.out hq
     obtain ⟨g,rfl⟩:∃ g,f=g+1:=⟨f - 1,by have:=Hf.out;omega⟩
     have HN:Hid (Tr.tro xs size.toNat g (Tr.xa P i++d)=R):=by
      have h9:=HRd.out
      rw [Tr.tro_step (by omega) (by rw [h3];exact h4),h3] at h9
      exact h9
     have HPre2:Hid (∀ p,p ∈ pre++P.take (i+1)->Tr.st p (Tr.xa P i++d)=true):=h5
     have HPL2:Hid (pre++P.take (i+1)++P.drop (i+1)=L):=by show _=_;rw [List.append_assoc,List.take_append_drop];exact HPL.out
     rcases hT with hT | ⟨b2,off2,rfl,hlo2,hTx⟩
     · rw [hT] at h2;simp at h2
     have cX:=hTx.2 i h2
     have hXd:(Tr.xa P i++d).size=4+d.size:=by rw [ByteArray.size_append,h4]
     have hT2:=Tr.TxFar.drop hlo2 hTx (i+1)
     generalize Tr.xa P i=X at *
     have hii:(i:Int)<(P.length:Int):=by omega
     have hi0:decide ((i:Int)<0)=false:=decide_eq_false (by omega)
     have hi6:(i:Int)<=6144:=by omega
     have hXs:X.size<=4:=by omega
     clear hq hp4 hrk HRd Hpre HPL h3 h5 hTx
     go_wp2_with fail
     refine c3.mono ?_
     rintro e w3 ⟨rfl,rfl⟩
     go_wp2_with fail
     go_region
     have hT3:=(hT2.set hlo (.string (X++d)))
     have hc3:(w3.setCell ⟨bx,0,none⟩ (.string (X++d))).cell? ⟨bx,0,none⟩=some (.string (X++d)):=World.cell?_setCell_same _ _ _ hcx
     have hf3:(w3.setCell ⟨bx,0,none⟩ (.string (X++d))).frozen? ⟨bx,0,none⟩=false:=by rw [World.frozen?_setCell];exact hfx
     have B4:Below w.heap.size w (w3.setCell ⟨bx,0,none⟩ (.string (X++d))):=B3.setCell hwb _
     have HD:Hid ((P.drop (i+1)).length=P.length - (i+1)):=List.length_drop ..
     have hlP:((i:Int)+1)<=(P.length:Int):=by omega
     have hlc:(P.length:Int)<=(c:Int):=by omega
     by_cases hce:i+1=c
     · subst hce
       obtain hPl:P.length=i+1:=by omega
       go_wp2_with fail
       go_roundw
       case rel=>exact ⟨pre++P.take (i+1),[],X++d,g,_,0,rfl,Nat.le_refl _,by simp,by have h9:=HPL2.out;rw [List.drop_of_length_le (by omega:P.length<=i+1)] at h9;exact h9,.inl rfl,HPre2,HN,by have:=Hf.out;show 4*g+_=260;omega,by omega,hc3,hf3,B4.drew⟩
       case measure=>simp [Tr.slen];omega
     · have hce':¬ ((i:Int)+1=(c:Int)):=by omega
       go_wp2_with fail
       go_roundw
       case rel=>exact ⟨pre++P.take (i+1),P.drop (i+1),X++d,g,_,c - (i+1),by rw [HD.out],by rw [HD.out];omega,by rw [HD.out];omega,HPL2,hT3,HPre2,HN,by have:=Hf.out;show 4*g+_=260;omega,by omega,hc3,hf3,B4.drew⟩
       case measure=>simp [Tr.slen];omega
  · have e1:decide ((d.size:Int)+4<=size)=false:=decide_eq_false hfit
    have HN:Hid (d=R):=by
     have h9:=HRd.out
     rw [Tr.tro_full (by omega)] at h9
     exact h9
    have c4:=fun w=>clone_any d w (by omega)
    go_wp2_with fail
    refine (c4 _).mono ?_
    rintro e w4 ⟨rfl,G⟩
    go_wp2_with fail
    go_ret2
    exact ⟨by rw [HN.out];rfl,bch B3 G (Nat.le_refl _)⟩
theorem train_many (xs:List ByteArray) (size:Int) (ad:Option Addr) (cap:Nat) (w:World) (hx:TxSl w ad xs) (hB:∀ i,(Tr.xa xs i).size<=140737488355328) (hm:Tr.many xs=true) :
 Calls Tryz.prog 32 #[.slice ad xs.length cap,.int .i64 size] w fun e w'=>e=.returned (.tuple #[.string ⟨#[]⟩,.int .i64 2])/\Below w.heap.size w w':=by
 have c1:=tooMany_any xs ad cap w hx hB
 rw [hm] at c1
 clear hB hm hx
 go_enter Tryz.func32,Tryz.ntmps32
 go_wp2_with fail
 refine c1.mono ?_
 rintro e w1 ⟨rfl,B1⟩
 go_wp2_with fail
 go_ret2
 exact ⟨rfl,B1⟩
theorem train_range (xs:List ByteArray) (size:Int) (ad:Option Addr) (cap:Nat) (w:World) (hx:TxSl w ad xs) (hB:∀ i,(Tr.xa xs i).size<=140737488355328) (hm:Tr.many xs=false) (h:size<0\/256<size) :
 Calls Tryz.prog 32 #[.slice ad xs.length cap,.int .i64 size] w fun e w'=>e=.returned (.tuple #[.string ⟨#[]⟩,.int .i64 3])/\Below w.heap.size w w':=by
 have c1:=tooMany_any xs ad cap w hx hB
 rw [hm] at c1
 clear hB hm hx
 by_cases h0:size<0
 · have d1:decide (size<0)=true:=decide_eq_true h0
   clear h
   go_enter Tryz.func32,Tryz.ntmps32
   go_wp2_with fail
   refine c1.mono ?_
   rintro e w1 ⟨rfl,B1⟩
   go_wp2_with fail
   go_ret2
   exact ⟨rfl,B1⟩
 · have d1:decide (size<0)=false:=decide_eq_false h0
   have h2:256<size:=by omega
   have d2:decide ((256:Int)<size)=true:=decide_eq_true h2
   clear h
   go_enter Tryz.func32,Tryz.ntmps32
   go_wp2_with fail
   refine c1.mono ?_
   rintro e w1 ⟨rfl,B1⟩
   go_wp2_with fail
   go_ret2
   exact ⟨rfl,B1⟩
namespace Tr
def tnE (xs:List ByteArray) (size:Int):Int:=if many xs=true then 2 else if 0<=size/\size<=256 then 0 else 3
def tnD (xs:List ByteArray) (size:Int):ByteArray:=if tnE xs size=0 then trn xs size.toNat else ⟨#[]⟩
end Tr
theorem train_any (xs:List ByteArray) (size:Int) (ad:Option Addr) (cap:Nat) (w:World) (hx:TxSl w ad xs) (hB:∀ i,(Tr.xa xs i).size<=140737488355328) (hM:Mx w) :
 Calls Tryz.prog 32 #[.slice ad xs.length cap,.int .i64 size] w fun e w'=>e=.returned (.tuple #[.string (Tr.tnD xs size),.int .i64 (Tr.tnE xs size)])/\Below w.heap.size w w':=by
 unfold Tr.tnD Tr.tnE
 cases hm:Tr.many xs with
 | true=>simpa using train_many xs size ad cap w hx hB hm
 | false =>
  by_cases h:0<=size/\size<=256
  · simpa [h] using train_ok xs size ad cap w hx hB hM hm h.1 h.2
  · simpa [h] using train_range xs size ad cap w hx hB hm (by omega)
end Go.Proofs.YtbjbjbpgmojcbacGreat
namespace Go.Proofs.YtbjbjbpgmojcbacGreat
open Go.RowKit
theorem retrain_chk (ad af:Option Addr) (cd cf:Nat) (a:Ar.A) (size:Int) (w:World) (h:ArV w ad af a) (hs:SaneA a) (hc:Ar.chk a ≠ 0) :
 Calls Tryz.prog 13 #[av ad cd af cf a,.int .i64 size] w fun e w'=>ArSaid w Ar.az (Ar.chk a) e w':=by
 have C1:Hid (∀ w',Below w.heap.size w w'->Calls Tryz.prog 31 #[av ad cd af cf a] w' fun e w2=>TxtSaid a w' e w2):=fun w' h9=>texts_any ad af cd cf a w' (h.below h9) hs
 have hQ:Hid (∀ w',Below w.heap.size w w'->ArSaid w Ar.az (Ar.chk a) (.returned (.tuple #[.agg #[.slice none 0 0,.slice none 0 0],.int .i64 (Ar.chk a)])) w'):=fun w' h9=>said_nil h9
 generalize ArSaid w Ar.az (Ar.chk a)=Q at *
 unfold TxtSaid at C1
 unfold av at C1 |-
 generalize Ar.chk a=E at *
 generalize Ar.txs a=TX at *
 generalize a.dicts.length=D at *
 generalize a.files.length=N at *
 have e1:(E != 0)=true:=by simpa using hc
 have e2:(E == 0)=false:=by simpa using hc
 clear h hs
 go_enter Tryz.func13,Tryz.ntmps13
 go_wp2_with fail
 refine (C1.out _ (Fr.start w _ _).b).mono ?_
 rintro e w1 ⟨adt,capt,L,rfl,_,_,_,_,G1⟩
 have F1:=(Fr.start w _ _).next G1
 clear G1
 obtain ⟨b,a0,a1,r0,r1,z0,z1,hz⟩:=id F1
 go_wp2_with fail
 rw [F1.zero]
 exact bodyPost_ret (v:=.tuple #[.agg #[.slice none 0 0,.slice none 0 0],.int .i64 E]) (by simp [results,Tryz.results13,go_sem,F1.r0,F1.r1]) rfl (hQ.out _ F1.b)
theorem retrain_size (ad af:Option Addr) (cd cf:Nat) (a:Ar.A) (size:Int) (w:World) (h:ArV w ad af a) (hs:SaneA a) (hM:Mx w) (hc:Ar.chk a=0) (hz:¬ (0<=size/\size<=256)) :
 Calls Tryz.prog 13 #[av ad cd af cf a,.int .i64 size] w fun e w'=>ArSaid w Ar.az 3 e w':=by
 have C1:Hid (∀ w',Below w.heap.size w w'->Calls Tryz.prog 31 #[av ad cd af cf a] w' fun e w2=>TxtSaid a w' e w2):=fun w' h9=>texts_any ad af cd cf a w' (h.below h9) hs
 have hT:=Ar.txs_many hc
 have C2:Hid (∀ w' adt capt,Below w.heap.size w w'->TxSl w' adt (Ar.txs a)->Calls Tryz.prog 32 #[.slice adt (Ar.txs a).length capt,.int .i64 size] w' fun e w2=>e=.returned (.tuple #[.string ⟨#[]⟩,.int .i64 3])/\Below w'.heap.size w' w2):=fun w' adt capt h8 h9=>by
  have:=train_any (Ar.txs a) size adt capt w' h9 (fun i=>by
   by_cases hi:i<(Ar.txs a).length
   · have e:Tr.xa (Ar.txs a) i=(Ar.txs a)[i]:=by simp [Tr.xa,hi]
     rw [e]
     exact Nat.le_trans (hT.2 _ (List.getElem_mem hi)) (by decide)
   · have e:Tr.xa (Ar.txs a) i=⟨#[]⟩:=by simp [Tr.xa,hi]
     rw [e];exact Nat.zero_le _) (hM.below h8)
  have eE:Tr.tnE (Ar.txs a) size=3:=by unfold Tr.tnE;rw [Ar.txs_none hc,if_neg (by decide),if_neg hz]
  have eD:Tr.tnD (Ar.txs a) size=⟨#[]⟩:=by unfold Tr.tnD;rw [eE,if_neg (by decide)]
  rw [eE,eD] at this
  exact this
 have hQ:Hid (∀ w',Below w.heap.size w w'->ArSaid w Ar.az 3 (.returned (.tuple #[.agg #[.slice none 0 0,.slice none 0 0],.int .i64 3])) w'):=fun w' h9=>said_nil h9
 generalize ArSaid w Ar.az 3=Q at *
 unfold TxtSaid at C1
 rw [hc] at C1
 unfold av at C1 |-
 generalize Ar.txs a=TX at *
 generalize a.dicts.length=D at *
 generalize a.files.length=N at *
 clear h hs hM hc hz hT
 go_enter Tryz.func13,Tryz.ntmps13
 go_wp2_with fail
 refine (C1.out _ (Fr.start w _ _).b).mono ?_
 rintro e w1 ⟨adt,capt,L,rfl,_,hfar,hLx,_,G1⟩
 have hLT:=hLx (by trivial)
 subst hLT
 have F1:=(Fr.start w _ _).next G1
 clear G1 hLx
 obtain ⟨b,a0,a1,r0,r1,z0,z1,hz⟩:=id F1
 have C2':=C2.out w1 adt capt b (TxFar.sl hfar)
 go_wp2_with fail
 refine C2'.mono ?_
 rintro e w2 ⟨rfl,G2⟩
 have F2:=F1.next G2
 clear b a0 a1 r0 r1 z0 z1 hz
 obtain ⟨b,a0,a1,r0,r1,z0,z1,hz⟩:=id F2
 go_wp2_with fail
 rw [F2.zero]
 exact bodyPost_ret (v:=.tuple #[.agg #[.slice none 0 0,.slice none 0 0],.int .i64 3]) (by simp [results,Tryz.results13,go_sem,F2.r0,F2.r1]) rfl (hQ.out _ F2.b)
theorem retrain_full (ad af:Option Addr) (cd cf:Nat) (a:Ar.A) (size:Int) (w:World) (h:ArV w ad af a) (hs:SaneA a) (hM:Mx w) (hc:Ar.chk a=0) (hz:0<=size/\size<=256) (h4:a.dicts.length=4) :
 Calls Tryz.prog 13 #[av ad cd af cf a,.int .i64 size] w fun e w'=>ArSaid w Ar.az 2 e w':=by
 have C1:Hid (∀ w',Below w.heap.size w w'->Calls Tryz.prog 31 #[av ad cd af cf a] w' fun e w2=>TxtSaid a w' e w2):=fun w' h9=>texts_any ad af cd cf a w' (h.below h9) hs
 have hT:=Ar.txs_many hc
 have C2:Hid (∀ w' adt capt,Below w.heap.size w w'->TxSl w' adt (Ar.txs a)->Calls Tryz.prog 32 #[.slice adt (Ar.txs a).length capt,.int .i64 size] w' fun e w2=>e=.returned (.tuple #[.string (Tr.trn (Ar.txs a) size.toNat),.int .i64 0])/\Below w'.heap.size w' w2):=fun w' adt capt h8 h9=>by
  have:=train_any (Ar.txs a) size adt capt w' h9 (fun i=>by
   by_cases hi:i<(Ar.txs a).length
   · have e:Tr.xa (Ar.txs a) i=(Ar.txs a)[i]:=by simp [Tr.xa,hi]
     rw [e]
     exact Nat.le_trans (hT.2 _ (List.getElem_mem hi)) (by decide)
   · have e:Tr.xa (Ar.txs a) i=⟨#[]⟩:=by simp [Tr.xa,hi]
     rw [e];exact Nat.zero_le _) (hM.below h8)
  have eE:Tr.tnE (Ar.txs a) size=0:=by unfold Tr.tnE;rw [Ar.txs_none hc,if_neg (by decide),if_pos hz]
  have eD:Tr.tnD (Ar.txs a) size=Tr.trn (Ar.txs a) size.toNat:=by unfold Tr.tnD;rw [if_pos eE]
  rw [eE,eD] at this
  exact this
 have hQ:Hid (∀ w',Below w.heap.size w w'->ArSaid w Ar.az 2 (.returned (.tuple #[.agg #[.slice none 0 0,.slice none 0 0],.int .i64 2])) w'):=fun w' h9=>said_nil h9
 generalize ArSaid w Ar.az 2=Q at *
 unfold TxtSaid at C1
 rw [hc] at C1
 unfold av at C1 |-
 generalize Tr.trn (Ar.txs a) size.toNat=X at *
 generalize Ar.txs a=TX at *
 rw [h4] at C1 |-
 generalize a.files.length=N at *
 clear h hs hM hc hz hT h4
 go_enter Tryz.func13,Tryz.ntmps13
 go_wp2_with fail
 refine (C1.out _ (Fr.start w _ _).b).mono ?_
 rintro e w1 ⟨adt,capt,L,rfl,_,hfar,hLx,_,G1⟩
 have hLT:=hLx (by trivial)
 subst hLT
 have F1:=(Fr.start w _ _).next G1
 clear G1 hLx
 obtain ⟨b,a0,a1,r0,r1,z0,z1,hz⟩:=id F1
 have C2':=C2.out w1 adt capt b (TxFar.sl hfar)
 go_wp2_with fail
 refine C2'.mono ?_
 rintro e w2 ⟨rfl,G2⟩
 have F2:=F1.next G2
 clear b a0 a1 r0 r1 z0 z1 hz
 obtain ⟨b,a0,a1,r0,r1,z0,z1,hz⟩:=id F2
 go_wp2_with fail
 rw [F2.zero]
 exact bodyPost_ret (v:=.tuple #[.agg #[.slice none 0 0,.slice none 0 0],.int .i64 2]) (by simp [results,Tryz.results13,go_sem,F2.r0,F2.r1]) rfl (hQ.out _ F2.b)
end Go.Proofs.YtbjbjbpgmojcbacGreat
