/- A part of the proof: what it leans on. -/
import Derived.Deep.LoopGhost
import Derived.Test.YtbjbjbpgmojcbacGreatLk04
set_option maxRecDepth 4000
set_option maxHeartbeats 4000000
namespace Go.Proofs.YtbjbjbpgmojcbacGreat
open Go.RowKit
theorem ZnV {f c:Nat->Int} (h:Cd.chk f=0) (h1:Cd.InR c 2048 16) (h2:Cd.cst f c 16=none):Cd.cost f c=(0,5):=by rw [Cd.cost,if_neg (by simpa using h),if_neg (by simpa using h1),h2]
def RowAt (w:World) (g:Nat) (f:Nat->Int):Prop:=g<w.heap.size/\w.heap[g]?=some (.cells (arr f) 127 (0,0))
theorem RowAt.below {g:Nat} {w w':World} {f:Nat->Int} (h:RowAt w g f) (hb:Below w.heap.size w w'):RowAt w' g f:=⟨Nat.lt_of_lt_of_le h.1 hb.size,by rw [hb.block g h.1];exact h.2⟩
theorem RowAt.cell {g:Nat} {w:World} {f:Nat->Int} (h:RowAt w g f) (k:Nat) (hk:k<16):w.cell? ⟨g,k,none⟩=some (.int .i64 (f k)):=by rw [cell_of_row w g k _ _ _ h.2,ZbW f k hk]
theorem RowAt.new (w:World) (f:Nat->Int):RowAt (w.alloc (.cells (arr f) 127)) w.heap.size f:=⟨by simp,heap_alloc_last w _⟩
theorem RowAt.alloc {g:Nat} {w:World} {f:Nat->Int} (h:RowAt w g f) (o:Obj):RowAt (w.alloc o) g f:=h.below ((Below.refl _ _).alloc (Nat.le_refl _) o)
theorem RowAt.two (w:World) (f c:Nat->Int):RowAt ((w.alloc (.cells (arr f) 127)).alloc (.cells (arr c) 127)) w.heap.size f/\RowAt ((w.alloc (.cells (arr f) 127)).alloc (.cells (arr c) 127)) (w.heap.size+1) c :=
 ⟨(RowAt.new w f).alloc _,by have:=RowAt.new (w.alloc (.cells (arr f) 127)) c;simpa using this⟩
theorem Zjv (w:World) (o p:Obj):Below w.heap.size w ((w.alloc o).alloc p):=((Below.refl _ _).alloc (Nat.le_refl _) o).alloc (by simp) p
namespace Cd
def ltS (W:Nat->Int) (p:Int × Int) (k:Nat):Int × Int :=
 if W k=0 then p else if p.1=-1\/W k<W p.1.toNat then ((k:Int),p.1) else if p.2=-1\/W k<W p.2.toNat then (p.1,(k:Int)) else p
def lt2 (W:Nat->Int):Nat->Int × Int
 | 0=>(-1,-1)
 | k+1=>ltS W (lt2 W k) k
def Sg (W:Nat->Int) (k:Nat) (a:Int):Prop:=a=-1\/∃ p:Nat,a=p/\p<k/\W p ≠ 0
theorem Sg.mono {W:Nat->Int} {k j:Nat} {a:Int} (h:Sg W k a) (hk:k<=j):Sg W j a:=by
 rcases h with h | ⟨p,h1,h2,h3⟩
 ·exact .inl h
 ·exact .inr ⟨p,h1,by omega,h3⟩
theorem Zdh (W:Nat->Int):∀ k,Sg W k (lt2 W k).1/\Sg W k (lt2 W k).2:=by
 intro k
 induction k with
 | zero=>exact ⟨.inl rfl,.inl rfl⟩
 | succ k ih =>
  have i1:=ih.1.mono (Nat.le_succ k);have i2:=ih.2.mono (Nat.le_succ k);rw [lt2,ltS];by_cases h0:W k=0
  ·rw [if_pos h0];exact ⟨i1,i2⟩
  ·have hk:Sg W (k+1) (k:Int):=.inr ⟨k,rfl,by omega,h0⟩;rw [if_neg h0];split
   ·exact ⟨hk,i1⟩
   ·split
    ·exact ⟨i1,hk⟩
    ·exact ⟨i1,i2⟩
end Cd
theorem Zdn (W:Nat->Int) (w:World) :
 Calls Tryz.prog 146 #[.agg (arr W)] w fun e w'=>e=.returned (.tuple #[.int .i64 (Cd.lt2 W 16).1,.int .i64 (Cd.lt2 W 16).2])/\Below w.heap.size w w':=by
 have hat:=ZbW W;have hin:=Zb W;have hix:=ZiS W;have hbel:∀ o,Below w.heap.size w (w.alloc o):=fun o=>(bR _ _).alloc (nl _) o
 generalize hE:Cd.lt2 W 16=E at *;have HE:Hid (Cd.lt2 W 16=E):=hE;clear hE;go_enter Tryz.func146,Tryz.ntmps146
 go_wp2_with (refine wpList_load_row rfl 127 _ rfl w.heap.size rfl 127 (arr W) (0,0) _ (heap_alloc_last w _) U127 rfl hin ?_)
 go_loop [4,5,9] (fun a b i=>∃ (k:Nat) (A B:Int),k<=16/\i=.int .i64 k/\a=.int .i64 A/\b=.int .i64 B/\Hid (Cd.lt2 W k=(A,B))) (fun _ _ i=>16 - (intOf i).toNat)
 case atStart=>exact ⟨0,-1,-1,by omega,rfl,rfl,rfl,rfl⟩
 case round =>
  obtain ⟨k,A,B,hk,rfl,rfl,rfl,hL⟩:=hrel;by_cases hlt:k<16
  ·have hi:=hix k hlt;have hk1:decide ((k:Int)<16)=true:=by simp;omega
   have hk2:decide (k<16)=true:=by simp;omega
   have hk0:(0:Int)<=(k:Int):=by omega
   have HN:Hid (Cd.lt2 W (k+1)=Cd.ltS W (A,B) k):=by show _=_;rw [Cd.lt2,hL.out]
   have SA:Hid (Cd.Sg W k A/\Cd.Sg W k B):=by have:=Cd.Zdh W k;rw [hL.out] at this;exact this
   by_cases h0:W k=0
   ·have HN':Hid (Cd.lt2 W (k+1)=(A,B)):=by show _=_;rw [HN.out,Cd.ltS,if_pos h0]
    rw [h0] at hi;clear hix h0 hat hin;go_wp2_with fail
    exact ⟨⟨k+1,A,B,by omega,by go_num,rfl,rfl,HN'⟩,by simp [intOf];omega⟩
   ·have d0:(W k == 0)=false:=by simpa using h0
    by_cases hA:A=-1
    ·have HN':Hid (Cd.lt2 W (k+1)=((k:Int),-1)):=by show _=_;rw [HN.out,Cd.ltS,if_neg h0,if_pos (.inl hA),hA]
     subst hA;generalize W k=y at *;clear hix h0 hat hin;go_wp2_with fail
     exact ⟨⟨k+1,_,_,by omega,by go_num,rfl,rfl,HN'⟩,by simp [intOf];omega⟩
    ·obtain ⟨p,rfl,hp,_⟩:=SA.out.1.resolve_left hA;have dA:((p:Int) == -1)=false:=by simp
     have hcp:=hat p (by omega);have hp1:(p:Int)<16:=by omega
     by_cases hx:W k<W p
     ·have HN':Hid (Cd.lt2 W (k+1)=((k:Int),(p:Int))):=by show _=_;rw [HN.out,Cd.ltS,if_neg h0,if_pos (.inr hx)]
      have dx:decide (W k<W p)=true:=by simpa using hx
      generalize W k=y at *;generalize W p=z at *;clear hix h0 hat hin hA hx;go_wp2_with fail
      exact ⟨⟨k+1,_,_,by omega,by go_num,rfl,rfl,HN'⟩,by simp [intOf];omega⟩
     ·have dx:decide (W k<W p)=false:=by simpa using hx
      have hnot:¬ ((p:Int)=-1\/W k<W (p:Int).toNat):=fun h=>h.elim hA hx
      by_cases hB:B=-1
      ·have HN':Hid (Cd.lt2 W (k+1)=((p:Int),(k:Int))):=by show _=_;rw [HN.out,Cd.ltS,if_neg h0,if_neg hnot,if_pos (.inl hB)]
       subst hB;generalize W k=y at *;generalize W p=z at *;clear hix h0 hat hin hA hx hnot;go_wp2_with fail
       exact ⟨⟨k+1,_,_,by omega,by go_num,rfl,rfl,HN'⟩,by simp [intOf];omega⟩
      ·obtain ⟨q,rfl,hq,_⟩:=SA.out.2.resolve_left hB;have dB:((q:Int) == -1)=false:=by simp
       have hcq:=hat q (by omega);have hq1:(q:Int)<16:=by omega
       by_cases hy:W k<W q
       ·have HN':Hid (Cd.lt2 W (k+1)=((p:Int),(k:Int))):=by show _=_;rw [HN.out,Cd.ltS,if_neg h0,if_neg hnot,if_pos (.inr hy)]
        have dy:decide (W k<W q)=true:=by simpa using hy
        generalize W k=y at *;generalize W p=z at *;generalize W q=z2 at *;clear hix h0 hat hin hA hx hB hy hnot;go_wp2_with fail
        exact ⟨⟨k+1,_,_,by omega,by go_num,rfl,rfl,HN'⟩,by simp [intOf];omega⟩
       ·have HN':Hid (Cd.lt2 W (k+1)=((p:Int),(q:Int))):=by show _=_;rw [HN.out,Cd.ltS,if_neg h0,if_neg hnot,if_neg (fun h=>h.elim hB hy)]
        have dy:decide (W k<W q)=false:=by simpa using hy
        generalize W k=y at *;generalize W p=z at *;generalize W q=z2 at *;clear hix h0 hat hin hA hx hB hy hnot;go_wp2_with fail
        exact ⟨⟨k+1,_,_,by omega,by go_num,rfl,rfl,HN'⟩,by simp [intOf];omega⟩
  ·obtain rfl:k=16:=by omega
   have h9:=HE.out.symm.trans hL.out;subst h9;clear hix hat hin;go_wp2_with fail
   go_ret2
   exact ⟨rfl,hbel _⟩
def upd (f:Nat->Int) (k:Nat) (v:Int):Nat->Int:=fun i=>if i=k then v else f i
theorem ZC (f:Nat->Int) (k:Nat) (v:Int):upd f k v k=v:=by simp [upd]
theorem Zg (f:Nat->Int) {k i:Nat} (v:Int) (h:i ≠ k):upd f k v i=f i:=by simp [upd,h]
theorem Znx {f g:Nat->Int} (h:∀ i,i<16->f i=g i):arr f=arr g:=by
 unfold arr
 congr 1
 apply List.map_congr_left;intro i hi;rw [h i (List.mem_range.1 hi)]
theorem Zsj (f:Nat->Int) (k:Nat) (v:Int):(arr f).setIfInBounds k (.int .i64 v)=arr (upd f k v):=by
 apply Array.ext_getElem?;intro i;rw [Array.getElem?_setIfInBounds,Zh];by_cases hi:i<16
 ·rw [ZbW _ i hi,ZbW _ i hi];by_cases h:k=i
  ·subst h;simp [upd,hi]
  ·have h':¬ i=k:=fun e=>h e.symm
   simp [upd,h,h']
 ·have h1:(arr f)[i]?=none:=by rw [Array.getElem?_eq_none];rw [Zh];omega
  have h2:(arr (upd f k v))[i]?=none:=by rw [Array.getElem?_eq_none];rw [Zh];omega
  rw [h1,h2];split
  ·rename_i h;subst h;simp [hi]
  ·rfl
theorem Zk:(#[.int .i64 0,.int .i64 0,.int .i64 0,.int .i64 0,.int .i64 0,.int .i64 0,.int .i64 0,.int .i64 0,.int .i64 0,.int .i64 0,.int .i64 0,.int .i64 0,.int .i64 0,.int .i64 0,.int .i64 0,.int .i64 0]:Array Value)=arr (fun _=>0):=rfl
theorem ZV (f:Nat->Int):(arr f).all (·.oneCell')=true:=by
 rw [Array.all_eq_true_iff_forall_mem];intro v hv;simp [arr] at hv;obtain ⟨i,_,rfl⟩:=hv;rfl
theorem RowAt.set {w:World} {g:Nat} {f:Nat->Int} (h:RowAt w g f) (k:Nat) (v:Int):RowAt (w.setCell ⟨g,k,none⟩ (.int .i64 v)) g (upd f k v):=by
 refine ⟨by have:=h.1;simpa [World.setCell] using this,?_⟩;show (w.heap.modify g _)[g]?=_;rw [Array.getElem?_modify,if_pos rfl,h.2];simp only [Option.map_some,Option.isSome_none,Bool.false_eq_true,if_false];rw [Zsj]
theorem RowAt.setFar {w:World} {g:Nat} {f:Nat->Int} (h:RowAt w g f) {q:Nat} (hq:q ≠ g) (k:Nat) (v:Value):RowAt (w.setCell ⟨q,k,none⟩ v) g f:=by
 refine ⟨by have:=h.1;simpa [World.setCell] using this,?_⟩;show (w.heap.modify q _)[g]?=_;rw [Array.getElem?_modify,if_neg hq,h.2]
theorem RowAt.setRow {w:World} {g:Nat} {f:Nat->Int} (h:RowAt w g f) (f':Nat->Int):RowAt (w.setRow g (arr f')) g f':=by
 refine ⟨by have:=h.1;simpa [World.setRow] using this,?_⟩;show (w.heap.modify g _)[g]?=_;rw [Array.getElem?_modify,if_pos rfl,h.2];rfl
theorem RowAt.setRowFar {w:World} {g:Nat} {f:Nat->Int} (h:RowAt w g f) {q:Nat} (hq:q ≠ g) (c:Array Value):RowAt (w.setRow q c) g f:=by
 refine ⟨by have:=h.1;simpa [World.setRow] using this,?_⟩;show (w.heap.modify q _)[g]?=_;rw [Array.getElem?_modify,if_neg hq,h.2]
theorem Zn {B:Nat} {a w:World} (h:Below B a w) {g:Nat} (hg:B<=g) (c:Array Value):Below B a (w.setRow g c):=by
 refine ⟨h.os,h.tape,h.output,by have:=h.size;simpa [World.setRow] using this,fun k hk=>?_⟩;show (w.heap.modify g _)[k]?=_;rw [Array.getElem?_modify,if_neg (by omega),h.block k hk]
theorem RowAt.frozen {w:World} {g:Nat} {f:Nat->Int} (h:RowAt w g f) (k:Nat):w.frozen? ⟨g,k,none⟩=false:=by
 simp [World.frozen?,h.2]
theorem RowAt.congr {w:World} {g:Nat} {f f':Nat->Int} (h:RowAt w g f) (hf:∀ i,i<16->f i=f' i):RowAt w g f':=⟨h.1,by rw [h.2,Znx hf]⟩
namespace Cd
def rW (W:Nat->Int) (p q:Nat):Nat->Int:=upd (upd (upd W p 0) q 0) (min p q) (W p+W q)
def rT (T:Nat->Int) (p q:Nat):Nat->Int:=fun i=>if T i=p\/T i=q then (min p q:Nat) else T i
def rL (T L:Nat->Int) (p q:Nat):Nat->Int:=fun i=>if T i=p\/T i=q then L i+1 else L i
def bldR:Nat->(Nat->Int)->(Nat->Int)->(Nat->Int)->(Nat->Int)
 | 0,_,_,L=>L
 | n+1,W,T,L=>if (lt2 W 16).2=-1 then L else bldR n (rW W (lt2 W 16).1.toNat (lt2 W 16).2.toNat) (rT T (lt2 W 16).1.toNat (lt2 W 16).2.toNat) (rL T L (lt2 W 16).1.toNat (lt2 W 16).2.toNat)
def bld (c:Nat->Int):(Nat->Int) × Int :=
 if ¬ InR c 2048 16 then (fun _=>0,3) else if (lt2 c 16).1=-1 then (fun _=>0,5) else if (lt2 c 16).2=-1 then (upd (fun _=>0) (lt2 c 16).1.toNat 1,0) else (bldR 16 c (fun i=>i) (fun _=>0),0)
def cnt (W:Nat->Int):Nat->Nat
 | 0=>0
 | k+1=>cnt W k+(if W k=0 then 0 else 1)
def tot (W:Nat->Int):Nat->Int
 | 0=>0
 | k+1=>tot W k+W k
theorem Zsh {W:Nat->Int} {p:Nat} {v:Int}:∀ k,k<=p->cnt (upd W p v) k=cnt W k:=by
 intro k
 induction k with
 | zero=>intro _;rfl
 | succ k ih=>intro h;rw [cnt,cnt,ih (by omega),Zg _ _ (by omega)]
theorem ZrH {W:Nat->Int} {p:Nat} {v:Int}:∀ k,k<=p->tot (upd W p v) k=tot W k:=by
 intro k
 induction k with
 | zero=>intro _;rfl
 | succ k ih=>intro h;rw [tot,tot,ih (by omega),Zg _ _ (by omega)]
theorem Ziu {W:Nat->Int} {p:Nat} {v:Int}:∀ k,p<k->cnt (upd W p v) k+(if W p=0 then 0 else 1)=cnt W k+(if v=0 then 0 else 1):=by
 intro k
 induction k with
 | zero=>intro h;omega
 | succ k ih =>
  intro h;rw [cnt,cnt];by_cases hk:p=k
  ·subst hk;rw [Zsh p (Nat.le_refl _),ZC];omega
  ·have:=ih (by omega);rw [Zg _ _ (by omega)];omega
theorem Zep {W:Nat->Int} {p:Nat} {v:Int}:∀ k,p<k->tot (upd W p v) k+W p=tot W k+v:=by
 intro k
 induction k with
 | zero=>intro h;omega
 | succ k ih =>
  intro h;rw [tot,tot];by_cases hk:p=k
  ·subst hk;rw [ZrH p (Nat.le_refl _),ZC];omega
  ·have:=ih (by omega);rw [Zg _ _ (by omega)];omega
theorem Zgl {W:Nat->Int}:∀ k,(∀ i,i<k->0<=W i)->0<=tot W k:=by
 intro k
 induction k with
 | zero=>intro _;exact Int.le_refl _
 | succ k ih=>intro h;rw [tot];have:=h k (by omega);have:=ih (fun i hi=>h i (by omega));omega
theorem Zry {W:Nat->Int} {p q:Nat} (h:∀ i,i<16->0<=W i) (hp:p<16) (hq:q<16) (hne:p ≠ q):W p+W q<=tot W 16:=by
 have h1:=Zep (W:=W) (p:=p) (v:=0) 16 hp;have h2:=Zep (W:=upd W p 0) (p:=q) (v:=0) 16 hq;rw [Zg _ _ (fun e=>hne e.symm)] at h2;have h3:=Zgl (W:=upd (upd W p 0) q 0) 16 (fun i hi=>by unfold upd;split;omega;split;omega;exact h i hi);omega
theorem Zhw (W:Nat->Int):∀ k,cnt W k<=k:=by
 intro k
 induction k with
 | zero=>exact nl _
 | succ k ih=>rw [cnt];split <;> omega
theorem ZtV {W:Nat->Int}:∀ k,InR W 2048 k->tot W k<=2048*k:=by
 intro k
 induction k with
 | zero=>intro _;simp [tot]
 | succ k ih=>intro h;rw [tot];have:=h k (by omega);have:=ih (fun i hi=>h i (by omega));omega
theorem ZfU {n:Nat} {W T L:Nat->Int} (h:(lt2 W 16).2=-1):bldR n W T L=L:=by
 cases n with
 | zero=>rfl
 | succ n=>rw [bldR,if_pos h]
theorem Zeq {n:Nat} {W T L:Nat->Int} {p q:Nat} (h:lt2 W 16=((p:Int),(q:Int))):bldR (n+1) W T L=bldR n (rW W p q) (rT T p q) (rL T L p q):=by
 rw [bldR,h,if_neg (by simp only;omega)];rfl
theorem rL_b {T L:Nat->Int} {p q n:Nat} (h:∀ i,0<=L i/\L i+(n+1:Nat)<=16):∀ i,0<=rL T L p q i/\rL T L p q i+(n:Nat)<=16:=by
 intro i;have:=h i;unfold rL;split <;> omega
theorem ZtE (W:Nat->Int):∀ k,(lt2 W k).1=(lt2 W k).2->(lt2 W k).1=-1:=by
 intro k
 induction k with
 | zero=>intro _;rfl
 | succ k ih =>
  have hs:=Zdh W k
  have far:∀ a,Sg W k a->a ≠ (k:Int):=by
   intro a h e;rcases h with h | ⟨p,h1,h2,_⟩ <;> omega
  rw [lt2,ltS];by_cases h0:W k=0
  ·rw [if_pos h0];exact ih
  ·rw [if_neg h0];split
   ·intro h;exact absurd h.symm (far _ hs.1)
   ·split
    ·intro h;exact absurd h (far _ hs.1)
    ·exact ih
theorem Zcc {W:Nat->Int} (h:(lt2 W 16).2 ≠ -1):∃ p q:Nat,lt2 W 16=((p:Int),(q:Int))/\p<16/\q<16/\p ≠ q/\W p ≠ 0/\W q ≠ 0:=by
 have first:∀ k,(lt2 W k).1=-1->(lt2 W k).2=-1:=by
  intro k
  induction k with
  | zero=>intro _;rfl
  | succ k ih =>
   rw [lt2,ltS];by_cases h0:W k=0
   ·rw [if_pos h0];exact ih
   ·rw [if_neg h0];split
    ·intro h9;simp only at h9;omega
    ·rename_i h9
     split
     ·intro h8;exact absurd (Or.inl h8) h9
     ·intro h8;exact absurd (Or.inl h8) h9
 obtain ⟨s1,s2⟩:=Zdh W 16;rcases s2 with s2 | ⟨q,e2,hq,n2⟩
 ·exact absurd s2 h
 rcases s1 with s1 | ⟨p,e1,hp,n1⟩
 ·exact absurd (first 16 s1) h
 refine ⟨p,q,by rw [<-e1,<-e2],hp,hq,?_,n1,n2⟩;intro e;have:=ZtE W 16 (by rw [e1,e2,e]);omega
theorem ZjL {W:Nat->Int} {p q:Nat} (h:∀ i,i<16->0<=W i) (hp:p<16) (hq:q<16):∀ i,i<16->0<=rW W p q i:=by
 intro i hi;have h1:=h p hp;have h2:=h q hq;have h3:=h i hi;unfold rW upd;split
 ·omega
 ·split
  ·omega
  ·split
   ·omega
   ·exact h3
theorem ZjJ {W:Nat->Int} {p q:Nat} (h:∀ i,i<16->0<=W i) (hp:p<16) (hq:q<16) (hne:p ≠ q) (n1:W p ≠ 0) (n2:W q ≠ 0):cnt (rW W p q) 16+1=cnt W 16/\tot (rW W p q) 16=tot W 16/\2<=cnt W 16:=by
 have h1:=h p hp;have h2:=h q hq;have c1:=Ziu (W:=W) (p:=p) (v:=0) 16 hp;have c2:=Ziu (W:=upd W p 0) (p:=q) (v:=0) 16 hq;have c3:=Ziu (W:=upd (upd W p 0) q 0) (p:=min p q) (v:=W p+W q) 16 (by omega);have t1:=Zep (W:=W) (p:=p) (v:=0) 16 hp;have t2:=Zep (W:=upd W p 0) (p:=q) (v:=0) 16 hq;have t3:=Zep (W:=upd (upd W p 0) q 0) (p:=min p q) (v:=W p+W q) 16 (by omega)
 have z:upd (upd W p 0) q 0 (min p q)=0:=by
  unfold upd;split
  ·rfl
  ·rename_i h9
   rw [if_pos];omega
 have hn:¬ W p+W q=0:=by omega
 rw [Zg _ _ (fun e=>hne e.symm)] at c2 t2;rw [z] at c3 t3;simp only [if_neg n1,if_neg n2,if_neg hn,if_true] at c1 c2 c3;unfold rW;refine ⟨?_,?_,?_⟩ <;> omega
end Cd
theorem Zod (w:World) (c:Nat->Int) (o:Nat->Int):RowAt (((w.alloc (.cells (arr c) 127)).alloc (.cells (arr o) 127)).alloc (.cells (arr o) 127)) w.heap.size c ∧
 RowAt (((w.alloc (.cells (arr c) 127)).alloc (.cells (arr o) 127)).alloc (.cells (arr o) 127)) (w.heap.size+1) o ∧
 RowAt (((w.alloc (.cells (arr c) 127)).alloc (.cells (arr o) 127)).alloc (.cells (arr o) 127)) (w.heap.size+1+1) o ∧
 Below w.heap.size w (((w.alloc (.cells (arr c) 127)).alloc (.cells (arr o) 127)).alloc (.cells (arr o) 127)):=by
 obtain ⟨h1,h2⟩:=RowAt.two w c o;refine ⟨h1.alloc _,h2.alloc _,?_,(Zjv w _ _).alloc (by simp;omega) _⟩;have:=RowAt.new ((w.alloc (.cells (arr c) 127)).alloc (.cells (arr o) 127)) o;simpa using this
theorem ZI {P:Program} {fn:Func} {p:Tmp} {ty:TypeId} {q:Tmp} (h:fn.results=#[.cell p ty,.tmp q]) (tmps:Array Value) (w:World) (g:Nat) (t:TypeId) (cs:Array Value) (fr:Nat × Nat) (d:TypeDesc)
 (hp:tmps.getD p undef=.pointer (some ⟨g,0,none⟩)) (hg:w.heap[g]?=some (.cells cs t fr))
 (hu:P.underlying ty=some d) (hd:(match d with | .struct _ | .array _ _=>true | _=>false)=true) (hi:(P.info? ty).map (·.size)=some cs.size) (v:Value) (hq:tmps.getD q undef=v) :
 (results fn tmps).run P w=.ok (.tuple #[.agg cs,v]) w:=by
 subst hq;have hp':tmps[p]?.getD undef=.pointer (some ⟨g,0,none⟩):=by simpa using hp
 simp [results,h,hp',asAddr,run_loadVar_row w g t ty cs fr d hg hu hd hi]
theorem ZhC (c:Nat->Int) (w:World) (h1:¬ Cd.InR c 2048 16) :
 Calls Tryz.prog 120 #[.agg (arr c)] w fun e w'=>e=.returned (.tuple #[.agg (arr (fun _=>0)),.int .i64 3])/\Below w.heap.size w w':=by
 have hcn:=fun w=>Zcq c w
 rw [decide_eq_false h1] at hcn;have hin:=Zb c;have hz:=Zb (fun _=>0);obtain ⟨R1,R2,R4,HB⟩:=Zod w c (fun _=>0);rw [<-Zk] at R1 R2 R4 HB;clear h1;go_enter Tryz.func120,Tryz.ntmps120
 go_wp2_with (refine wpList_load_row rfl 127 _ rfl w.heap.size rfl 127 (arr c) (0,0) _ R1.2 U127 rfl hin ?_)
 refine (hcn _).mono ?_;rintro e w1 ⟨rfl,G1⟩;have S2:=R2.below G1;have S4:=R4.below G1;have B1:=bch HB G1 (nl _);clear R1 R2 R4 HB G1 hcn;go_wp2_with (first | refine wpList_load_row rfl 127 _ rfl (w.heap.size+1+1) rfl 127 (arr fun _=>0) (0,0) _ S4.2 U127 rfl hz ?_ | refine wpList_store_row rfl 127 _ _ rfl (w.heap.size+1) (arr fun _=>0) rfl rfl 127 _ S2.2 hz rfl (ZV _) ?_)
 have U2:=S2.setRow (fun _=>0);exact bodyPost_ret (v:=.tuple #[.agg (arr fun _=>0),.int .i64 3]) (ZI Tryz.results120 _ _ (w.heap.size+1) 127 _ (0,0) _ rfl U2.2 U127 rfl hz _ rfl) rfl ⟨rfl,Zn B1 (Nat.le_succ _) _⟩
structure Rows4 (wr:World) (g2 g4 g5 g6:Nat) (L W T:Nat->Int):Prop where
 r2:RowAt wr g2 (fun _=>0)
 r4:RowAt wr g4 L
 r5:RowAt wr g5 W
 r6:RowAt wr g6 T
theorem Rows4.below {wr w':World} {g2 g4 g5 g6:Nat} {L W T:Nat->Int} (h:Rows4 wr g2 g4 g5 g6 L W T) (hb:Below wr.heap.size wr w'):Rows4 w' g2 g4 g5 g6 L W T:=⟨h.r2.below hb,h.r4.below hb,h.r5.below hb,h.r6.below hb⟩
theorem Rows4.set4 {wr:World} {g2 g4 g5 g6:Nat} {L W T:Nat->Int} (h:Rows4 wr g2 g4 g5 g6 L W T) (hq:g2<g4/\g4<g5/\g5<g6) (k:Nat) (v:Int):Rows4 (wr.setCell ⟨g4,k,none⟩ (.int .i64 v)) g2 g4 g5 g6 (upd L k v) W T :=
 ⟨h.r2.setFar (by omega) _ _,h.r4.set _ _,h.r5.setFar (by omega) _ _,h.r6.setFar (by omega) _ _⟩
theorem Rows4.set5 {wr:World} {g2 g4 g5 g6:Nat} {L W T:Nat->Int} (h:Rows4 wr g2 g4 g5 g6 L W T) (hq:g2<g4/\g4<g5/\g5<g6) (k:Nat) (v:Int):Rows4 (wr.setCell ⟨g5,k,none⟩ (.int .i64 v)) g2 g4 g5 g6 L (upd W k v) T :=
 ⟨h.r2.setFar (by omega) _ _,h.r4.setFar (by omega) _ _,h.r5.set _ _,h.r6.setFar (by omega) _ _⟩
theorem Rows4.set6 {wr:World} {g2 g4 g5 g6:Nat} {L W T:Nat->Int} (h:Rows4 wr g2 g4 g5 g6 L W T) (hq:g2<g4/\g4<g5/\g5<g6) (k:Nat) (v:Int):Rows4 (wr.setCell ⟨g6,k,none⟩ (.int .i64 v)) g2 g4 g5 g6 L W (upd T k v) :=
 ⟨h.r2.setFar (by omega) _ _,h.r4.setFar (by omega) _ _,h.r5.setFar (by omega) _ _,h.r6.set _ _⟩
theorem Zni {w1:World} {g2 g4:Nat} (c:Nat->Int) (S2:RowAt w1 g2 (fun _=>0)) (S4:RowAt w1 g4 (fun _=>0)):Rows4 ((w1.alloc (.cells (arr c) 127)).alloc (.cells (arr fun _=>0) 127)) g2 g4 w1.heap.size (w1.heap.size+1) (fun _=>0) c (fun _=>0):=by
 obtain ⟨h1,h2⟩:=RowAt.two w1 c (fun _=>0);exact ⟨(S2.alloc _).alloc _,(S4.alloc _).alloc _,h1,h2⟩
theorem Zoy (c:Nat->Int) (w:World) (h1:Cd.InR c 2048 16) :
 Calls Tryz.prog 120 #[.agg (arr c)] w fun e w'=>e=.returned (.tuple #[.agg (arr (Cd.bld c).1),.int .i64 (Cd.bld c).2])/\Below w.heap.size w w':=by
 have hcn:=fun w=>Zcq c w
 rw [decide_eq_true h1] at hcn;have hin:=Zb c;have hz:=Zb (fun _=>0);obtain ⟨R1,R2,R4,HB⟩:=Zod w c (fun _=>0);rw [<-Zk] at R1 R2 R4 HB;have HR:Hid (Cd.InR c 2048 16):=h1;clear h1
 obtain ⟨r1,r2,hr⟩:∃ r1 r2,Cd.bld c=(r1,r2):=⟨_,_,rfl⟩
 rw [hr];have Hr:Hid (Cd.bld c=(r1,r2)):=hr;clear hr;go_enter Tryz.func120,Tryz.ntmps120
 go_wp2_with (refine wpList_load_row rfl 127 _ rfl w.heap.size rfl 127 (arr c) (0,0) _ R1.2 U127 rfl hin ?_)
 refine (hcn _).mono ?_;rintro e w1 ⟨rfl,G1⟩;have S1:=R1.below G1;have S2:=R2.below G1;have S4:=R4.below G1;have B1:=bch HB G1 (nl _);clear R1 R2 R4 HB G1 hcn;have hs2:=S4.1;have F:=Zni c S2 S4;have B3:Below w.heap.size w ((w1.alloc (.cells (arr c) 127)).alloc (.cells (arr fun _=>0) 127)):=(B1.alloc (by omega) _).alloc (by simp;omega) _;rw [<-Zk] at F B3;go_wp2_with (first | refine wpList_load_row rfl 127 _ rfl w.heap.size rfl 127 (arr c) (0,0) _ S1.2 U127 rfl hin ?_ | (refine wpList_store_row rfl 127 _ _ rfl w1.heap.size (arr c) rfl rfl 127 _ (heap_alloc_last w1 _) hin rfl (ZV _) ?_;rw [World.setRow_alloc_new]))
 clear S1 S2 S4 B1;have hq0:w.heap.size+1<w.heap.size+1+1/\w.heap.size+1+1<w1.heap.size/\w1.heap.size<w1.heap.size+1:=by omega
 have hN:w.heap.size<=w.heap.size+1:=by omega
 clear hs2;rw [Zk] at F B3;rw [Zk];generalize (w1.alloc (.cells (arr c) 127)).alloc (.cells (arr fun _=>0) 127)=w2 at *;generalize w.heap.size+1+1=g4 at *;generalize w.heap.size+1=g2 at *;generalize w1.heap.size+1=g6 at *;generalize w1.heap.size=g5 at *;have hq:Hid (g2<g4/\g4<g5/\g5<g6):=hq0;have hN':Hid (w.heap.size<=g2):=hN;clear hq0 hN;go_loopw [19] (fun i wr=>∃ k:Nat,k<=16/\i=.int .i64 k/\Rows4 wr g2 g4 g5 g6 (fun _=>0) c (fun i=>if i<k then i else 0)/\Below w.heap.size w wr) (fun i _=>16 - (intOf i).toNat)
 case atStart=>exact ⟨0,by omega,rfl,⟨F.r2,F.r4,F.r5,F.r6.congr (fun i _=>by simp)⟩,B3⟩
 case round =>
  obtain ⟨k,hk,rfl,F,B⟩:=hrel;by_cases hlt:k<16
  ·have hk1:decide ((k:Int)<16)=true:=by simp;omega
   have hk2:decide (k<16)=true:=by simp;omega
   have hc6:=F.r6.cell k hlt;have hf6:=F.r6.frozen k;go_wp2_with fail
   go_roundw
   case rel =>
    refine ⟨k+1,by omega,by go_num,?_,B.setCell (by have:=hq.out;have:=hN'.out;show _<=g6;omega) _⟩;have F':=F.set6 hq.out k (k:Int);refine ⟨F'.r2,F'.r4,F'.r5,F'.r6.congr (fun i hi=>?_)⟩;show upd _ k (k:Int) i=if i<k+1 then (i:Int) else 0
    unfold upd;simp only;by_cases h9:i=k
    ·subst h9;simp
    ·rw [if_neg h9];by_cases h8:i<k
     ·rw [if_pos h8,if_pos (by omega)]
     ·rw [if_neg h8,if_neg (by omega)]
   case measure=>simp [intOf];omega
  ·have F1:Rows4 wr g2 g4 g5 g6 (fun _=>0) c (fun i=>i):=⟨F.r2,F.r4,F.r5,F.r6.congr (fun i hi=>by rw [if_pos (by omega)])⟩
   obtain rfl:k=16:=by omega
   clear F;have hlg:=fun w=>Zdn c w
   obtain ⟨A,B',hAB⟩:∃ A B,Cd.lt2 c 16=(A,B):=⟨_,_,rfl⟩
   rw [hAB] at hlg;have HAB:Hid (Cd.lt2 c 16=(A,B')):=hAB;clear hAB;go_wp2_with (refine wpList_load_row rfl 127 _ rfl g5 rfl 127 (arr c) (0,0) _ F1.r5.2 U127 rfl hin ?_)
   refine (hlg _).mono ?_;rintro e w3 ⟨rfl,G3⟩;have F3:=F1.below G3;have B3':=bch B G3 (nl _);clear F1 G3 hlg B;by_cases hA:A=-1
   ·have h9:=Hr.out.symm.trans (show Cd.bld c=(fun _=>0,5) by rw [Cd.bld,if_neg (fun h=>h HR.out),if_pos (by rw [HAB.out];exact hA)]);simp only [Prod.mk.injEq] at h9;obtain ⟨rfl,rfl⟩:=h9;subst hA;go_wp2_with (first | refine wpList_load_row rfl 127 _ rfl g4 rfl 127 (arr fun _=>0) (0,0) _ F3.r4.2 U127 rfl hz ?_ | refine wpList_store_row rfl 127 _ _ rfl g2 (arr fun _=>0) rfl rfl 127 _ F3.r2.2 hz rfl (ZV _) ?_)
    have U2:=F3.r2.setRow (fun _=>0);exact bodyPost_ret (v:=.tuple #[.agg (arr fun _=>0),.int .i64 5]) (ZI Tryz.results120 _ _ g2 127 _ (0,0) _ rfl U2.2 U127 rfl hz _ rfl) rfl ⟨rfl,Zn B3' hN'.out _⟩
   ·have dA:(A == -1)=false:=by simpa using hA
    obtain ⟨p,rfl,hp,_⟩:∃ p:Nat,A=p/\p<16/\c p ≠ 0:=by
     have:=(Cd.Zdh c 16).1;rw [HAB.out] at this;exact this.resolve_left hA
    clear hA;have hp1:(p:Int)<16:=by omega
    by_cases hB:B'=-1
    ·have h9:=Hr.out.symm.trans (show Cd.bld c=(upd (fun _=>0) p 1,0) by rw [Cd.bld,if_neg (fun h=>h HR.out),if_neg (by rw [HAB.out];simp only;omega),if_pos (by rw [HAB.out];exact hB),HAB.out];rfl);simp only [Prod.mk.injEq] at h9;obtain ⟨rfl,rfl⟩:=h9;subst hB;have hc4:=F3.r4.cell p hp;have hf4:=F3.r4.frozen p;have F4:=F3.set4 hq.out p 1;have hi1:=Zb (upd (fun _=>0) p 1);go_wp2_with fail
     refine wp_loop_rounds 1 ?_;rw [rounds_succ];go_wp2_with (first | refine wpList_load_row rfl 127 _ rfl g4 rfl 127 (arr (upd (fun _=>0) p 1)) (0,0) _ F4.r4.2 U127 rfl hi1 ?_ | refine wpList_store_row rfl 127 _ _ rfl g2 (arr (upd (fun _=>0) p 1)) rfl rfl 127 _ F4.r2.2 hi1 (by rw [Zh,Zh]) (ZV _) ?_)
     have U2:=F4.r2.setRow (upd (fun _=>0) p 1);exact bodyPost_ret (v:=.tuple #[.agg (arr (upd (fun _=>0) p 1)),.int .i64 0]) (ZI Tryz.results120 _ _ g2 127 _ (0,0) _ rfl U2.2 U127 rfl hi1 _ rfl) rfl ⟨rfl,Zn (B3'.setCell (by have:=hq.out;have:=hN'.out;show _<=g4;omega) _) hN'.out _⟩
    ·have dB:(B' == -1)=false:=by simpa using hB
     have h9:=Hr.out.symm.trans (show Cd.bld c=(Cd.bldR 16 c (fun i=>i) (fun _=>0),0) by rw [Cd.bld,if_neg (fun h=>h HR.out),if_neg (by rw [HAB.out];simp only;omega),if_neg (by rw [HAB.out];exact hB)]);simp only [Prod.mk.injEq] at h9;obtain ⟨h8,rfl⟩:=h9
     have H8:Hid ((∀ i,i<16->0<=c i)/\Cd.tot c 16<=32768/\Cd.cnt c 16<=16/\(∀ i,0<=(fun _:Nat=>(0:Int)) i/\(fun _:Nat=>(0:Int)) i+(16:Nat)<=16)/\Cd.bldR 16 c (fun i=>i) (fun _=>0)=r1) :=
      ⟨fun i hi=>(HR.out i hi).1,by have:=Cd.ZtV 16 HR.out;omega,Cd.Zhw c 16,fun i=>⟨Int.le_refl _,by simp⟩,h8.symm⟩
     clear h8 hB;go_wp2_with fail
     go_loopg [8,9] 16 (fun n a b wr=>∃ (W T L:Nat->Int) (A B:Int),a=.int .i64 A/\b=.int .i64 B/\Hid (Cd.lt2 W 16=(A,B))/\Rows4 wr g2 g4 g5 g6 L W T/\Below w.heap.size w wr/\Hid ((∀ i,i<16->0<=W i)/\Cd.tot W 16<=32768/\Cd.cnt W 16<=n/\(∀ i,0<=L i/\L i+(n:Nat)<=16)/\Cd.bldR n W T L=r1))
     case atStart=>exact ⟨c,fun i=>i,fun _=>0,p,B',rfl,rfl,HAB,F3,B3',H8⟩
     case round =>
      clear HAB F3 B3' H8 dA dB hp1 hp;obtain ⟨W,T,L,A,B',rfl,rfl,HAB,F3,B3',H8⟩:=hrel;by_cases hB:B'=-1
      ·have e:L=r1:=by
        have:=H8.out.2.2.2.2
        rwa [Cd.ZfU (by rw [HAB.out];exact hB)] at this
       subst e;subst hB;have hi1:=Zb L;go_wp2_with (first | refine wpList_load_row rfl 127 _ rfl g4 rfl 127 (arr L) (0,0) _ F3.r4.2 U127 rfl hi1 ?_ | refine wpList_store_row rfl 127 _ _ rfl g2 (arr L) rfl rfl 127 _ F3.r2.2 hi1 (by rw [Zh,Zh]) (ZV _) ?_)
       have U2:=F3.r2.setRow L;exact bodyPost_ret (v:=.tuple #[.agg (arr L),.int .i64 0]) (ZI Tryz.results120 _ _ g2 127 _ (0,0) _ rfl U2.2 U127 rfl hi1 _ rfl) rfl ⟨rfl,Zn B3' hN'.out _⟩
      ·obtain ⟨p,q,hpq,hp,hq1,hne,n1,n2⟩:=Cd.Zcc (W:=W) (by rw [HAB.out];exact hB);rw [HAB.out,Prod.mk.injEq] at hpq;obtain ⟨rfl,rfl⟩:=hpq;have dB:((q:Int) != -1)=true:=by simp
       have Hn:Hid (p ≠ q/\W p ≠ 0/\W q ≠ 0):=⟨hne,n1,n2⟩
       have hp':(p:Int)<16:=by omega
       have hq':(q:Int)<16:=by omega
       have hiT:=Zb T;clear hB hne n1 n2;go_wp2_with (refine wpList_load_row rfl 127 _ rfl g6 rfl 127 (arr T) (0,0) _ F3.r6.2 U127 rfl hiT ?_)
       rw [show min (p:Int) (q:Int)=((min p q:Nat):Int) by omega];have hm16:min p q<16:=by omega
       have hm':((min p q:Nat):Int)<16:=by omega
       have HrT:Hid (∀ i,Cd.rT T p q i=if T i=p\/T i=q then ((min p q:Nat):Int) else T i):=fun i=>rfl
       have HrW:Hid (upd (upd (upd W p 0) q 0) (min p q) (W p+W q)=Cd.rW W p q):=rfl;generalize min p q=m at *;go_loopw [44] (fun i wr=>∃ k:Nat,k<=16/\i=.int .i64 k/\Rows4 wr g2 g4 g5 g6 (fun i=>if i<k then Cd.rL T L p q i else L i) W (fun i=>if i<k then Cd.rT T p q i else T i)/\Below w.heap.size w wr) (fun i _=>16 - (intOf i).toNat)
       case atStart=>exact ⟨0,by omega,rfl,⟨F3.r2,F3.r4.congr (fun i _=>by simp),F3.r5,F3.r6.congr (fun i _=>by simp)⟩,B3'⟩
       case round =>
        clear F3 B3';obtain ⟨k,hk,rfl,F,B⟩:=hrel;by_cases hlt:k<16
        ·have hk1:decide ((k:Int)<16)=true:=by simp;omega
         have hk2:decide (k<16)=true:=by simp;omega
         have hix:=ZiS T k hlt;have hc6:=F.r6.cell k hlt;have hf6:=F.r6.frozen k;have F6:=F.set6 hq.out k m;have hc4:=F6.r4.cell k hlt;have hf4:=F6.r4.frozen k;have F4:=F6.set4 hq.out k (L k+1);have hLb:=H8.out.2.2.2.1 k;have hL1:0<=L k:=hLb.1;have hL2:L k<=16:=by omega
         simp only [Nat.lt_irrefl,if_false] at hc6 hc4
         have F4':T k=p\/T k=q->Rows4 ((wr.setCell ⟨g6,k,none⟩ (.int .i64 m)).setCell ⟨g4,k,none⟩ (.int .i64 (L k+1))) g2 g4 g5 g6 (fun i=>if i<k+1 then Cd.rL T L p q i else L i) W (fun i=>if i<k+1 then Cd.rT T p q i else T i):=fun h=>by
          refine ⟨F4.r2,F4.r4.congr (fun i hi=>?_),F4.r5,F4.r6.congr (fun i hi=>?_)⟩
          ·show upd _ k (L k+1) i=if i<k+1 then Cd.rL T L p q i else L i
           unfold upd;simp only;by_cases h9:i=k
           ·subst h9;rw [if_pos rfl,if_pos (by omega),Cd.rL,if_pos h]
           ·rw [if_neg h9];by_cases h8:i<k
            ·rw [if_pos h8,if_pos (by omega)]
            ·rw [if_neg h8,if_neg (by omega)]
          ·show upd _ k (m:Int) i=if i<k+1 then Cd.rT T p q i else T i
           unfold upd;simp only;by_cases h9:i=k
           ·subst h9;rw [if_pos rfl,if_pos (by omega),HrT.out,if_pos h]
           ·rw [if_neg h9];by_cases h8:i<k
            ·rw [if_pos h8,if_pos (by omega)]
            ·rw [if_neg h8,if_neg (by omega)]
         have F0:¬ (T k=p\/T k=q)->Rows4 wr g2 g4 g5 g6 (fun i=>if i<k+1 then Cd.rL T L p q i else L i) W (fun i=>if i<k+1 then Cd.rT T p q i else T i):=fun h=>by
          refine ⟨F.r2,F.r4.congr (fun i hi=>?_),F.r5,F.r6.congr (fun i hi=>?_)⟩
          ·show (if i<k then Cd.rL T L p q i else L i)=if i<k+1 then Cd.rL T L p q i else L i
           by_cases h9:i=k
           ·subst h9;rw [if_neg (Nat.lt_irrefl _),if_pos (by omega),Cd.rL,if_neg h]
           ·by_cases h8:i<k
            ·rw [if_pos h8,if_pos (by omega)]
            ·rw [if_neg h8,if_neg (by omega)]
          ·show (if i<k then Cd.rT T p q i else T i)=if i<k+1 then Cd.rT T p q i else T i
           by_cases h9:i=k
           ·subst h9;rw [if_neg (Nat.lt_irrefl _),if_pos (by omega),Cd.rT,if_neg h]
           ·by_cases h8:i<k
            ·rw [if_pos h8,if_pos (by omega)]
            ·rw [if_neg h8,if_neg (by omega)]
         have HF4:Hid (T k=p\/T k=q->Rows4 ((wr.setCell ⟨g6,k,none⟩ (.int .i64 m)).setCell ⟨g4,k,none⟩ (.int .i64 (L k+1))) g2 g4 g5 g6 (fun i=>if i<k+1 then Cd.rL T L p q i else L i) W (fun i=>if i<k+1 then Cd.rT T p q i else T i)):=F4';have HF0:Hid (¬ (T k=p\/T k=q)->Rows4 wr g2 g4 g5 g6 (fun i=>if i<k+1 then Cd.rL T L p q i else L i) W (fun i=>if i<k+1 then Cd.rT T p q i else T i)):=F0;have HBB:Hid (Below w.heap.size w ((wr.setCell ⟨g6,k,none⟩ (.int .i64 m)).setCell ⟨g4,k,none⟩ (.int .i64 (L k+1)))):=(B.setCell (by have:=hq.out;have:=hN'.out;show _<=g6;omega) _).setCell (by have:=hq.out;have:=hN'.out;show _<=g4;omega) _;clear F4 F4' F6 F0 F hLb;by_cases hx:T k=p
         ·have d1:(T k == (p:Int))=true:=by simpa using hx
          have HFF:=HF4.out (.inl hx);generalize T k=x at *;generalize L k=y at *;clear hx;go_wp2_with fail
          go_roundw
          case rel=>exact ⟨k+1,by omega,by go_num,HFF,HBB.out⟩
          case measure=>simp [intOf];omega
         ·have d1:(T k == (p:Int))=false:=by simpa using hx
          by_cases hy:T k=q
          ·have d2:(T k == (q:Int))=true:=by simpa using hy
           have HFF:=HF4.out (.inr hy);generalize T k=x at *;generalize L k=y at *;clear hx hy;go_wp2_with fail
           go_roundw
           case rel=>exact ⟨k+1,by omega,by go_num,HFF,HBB.out⟩
           case measure=>simp [intOf];omega
          ·have d2:(T k == (q:Int))=false:=by simpa using hy
           have HFF:=HF0.out (fun h=>h.elim hx hy);generalize T k=x at *;generalize L k=y at *;clear hx hy;go_wp2_with fail
           go_roundw
           case rel=>exact ⟨k+1,by omega,by go_num,HFF,B⟩
           case measure=>simp [intOf];omega
        ·obtain rfl:k=16:=by omega
         have F':Rows4 wr g2 g4 g5 g6 (Cd.rL T L p q) W (Cd.rT T p q):=⟨F.r2,F.r4.congr (fun i hi=>by rw [if_pos hi]),F.r5,F.r6.congr (fun i hi=>by rw [if_pos hi])⟩
         clear F;have hcp:=F'.r5.cell p hp;have hcq:=F'.r5.cell q hq1;have hsum:=Cd.Zry H8.out.1 hp hq1 Hn.out.1;have h0p:=H8.out.1 p hp;have h0q:=H8.out.1 q hq1;have htt:=H8.out.2.1;have hs1:W p<=32768:=by omega
         have hs2:W q<=32768:=by omega
         clear hsum htt;go_wp2_with fail
         go_quiet (fail)
         have F7:=F'.below (below_drewN (bR wr.heap.size wr) nq);have B7:=below_drewN B nq;clear F' B hcp hcq;generalize wr.drewN nq=wq at *;have a1:=F7.r5.cell p hp;have a2:=F7.r5.frozen p;have Fa:=F7.set5 hq.out p 0;have a3:=Fa.r5.cell q hq1;have a4:=Fa.r5.frozen q;have Fb:=Fa.set5 hq.out q 0;have a5:=Fb.r5.cell m hm16;have a6:=Fb.r5.frozen m;have Fc:=Fb.set5 hq.out m (W p+W q);rw [HrW.out] at Fc;have hg5:w.heap.size<=g5:=by have:=hq.out;have:=hN'.out;omega
         have Bc:=((B7.setCell (p:=⟨g5,p,none⟩) hg5 (.int .i64 0)).setCell (p:=⟨g5,q,none⟩) hg5 (.int .i64 0)).setCell (p:=⟨g5,m,none⟩) hg5 (.int .i64 (W p+W q));clear F7 Fa Fb B7 hg5;have hlg:=fun w=>Zdn (Cd.rW W p q) w
         obtain ⟨A2,B2,hAB2⟩:∃ A B,Cd.lt2 (Cd.rW W p q) 16=(A,B):=⟨_,_,rfl⟩
         rw [hAB2] at hlg;have HAB2:Hid (Cd.lt2 (Cd.rW W p q) 16=(A2,B2)):=hAB2;have hiW:=Zb (Cd.rW W p q)
         obtain ⟨n,hn,hnew⟩:∃ n,gk=n+1/\Hid ((∀ i,i<16->0<=Cd.rW W p q i)/\Cd.tot (Cd.rW W p q) 16<=32768/\Cd.cnt (Cd.rW W p q) 16<=n/\(∀ i,0<=Cd.rL T L p q i/\Cd.rL T L p q i+(n:Nat)<=16)/\Cd.bldR n (Cd.rW W p q) (Cd.rT T p q) (Cd.rL T L p q)=r1):=by
          obtain ⟨e1,e2,e3,e4,e5⟩:=H8.out;obtain ⟨x1,x2,x3⟩:=Cd.ZjJ e1 hp hq1 Hn.out.1 Hn.out.2.1 Hn.out.2.2;have hgk:gk=(gk - 1)+1:=by omega
          refine ⟨gk - 1,hgk,Cd.ZjL e1 hp hq1,by omega,by omega,Cd.rL_b (fun i=>by have:=e4 i;rw [<-hgk];exact this),?_⟩;rw [hgk,Cd.Zeq HAB.out] at e5;exact e5
         clear hAB2;have Hn1:Hid (gk=n+1):=hn;clear hn;generalize W p+W q=z at *;go_wp2_with (refine wpList_load_row rfl 127 _ rfl g5 rfl 127 (arr (Cd.rW W p q)) (0,0) _ Fc.r5.2 U127 rfl hiW ?_)
         refine (hlg _).mono ?_;rintro e w5 ⟨rfl,G5⟩;have Fd:=Fc.below G5;have Bd:=bch Bc G5 (nl _);clear Fc Bc G5 hlg a1 a2 a3 a4 a5 a6;go_wp2_with fail
         go_roundg n
         case measure=>have:=Hn1.out;omega
         case rel=>exact ⟨Cd.rW W p q,Cd.rT T p q,Cd.rL T L p q,A2,B2,rfl,rfl,HAB2,Fd,Bd,hnew⟩
theorem ZfB (c:Nat->Int) (w:World) :
 Calls Tryz.prog 120 #[.agg (arr c)] w fun e w'=>e=.returned (.tuple #[.agg (arr (Cd.bld c).1),.int .i64 (Cd.bld c).2])/\Below w.heap.size w w':=by
 by_cases h:Cd.InR c 2048 16
 ·exact Zoy c w h
 ·have h9:Cd.bld c=(fun _=>0,3):=by rw [Cd.bld,if_pos h]
  rw [h9];exact ZhC c w h
end Go.Proofs.YtbjbjbpgmojcbacGreat
