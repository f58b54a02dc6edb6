/- A part of the proof: what it leans on. -/
import Derived.Deep.LoopGhost
import Derived.Laws.BitsLemmas
import Derived.Maps.GroupsBeside
import Derived.Test.YtbjbjbpgmojcbabGreatLsBook02
set_option maxRecDepth 4000
set_option maxHeartbeats 4000000
namespace Go.Proofs.YtbjbjbpgmojcbabGreat
open Go.RowKit
namespace Cd
def ltS (W:Nat->Int) (p:Int × Int) (k:Nat):Int × Int :=
 if W k=0 then p else if p.1=-1\/W k<W p.1.toNat then ((k:Int),p.1) else if p.2=-1\/W k<W p.2.toNat then (p.1,(k:Int)) else p
def lt2 (W:Nat->Int):Nat->Int × Int
 | 0=>(-1,-1)
 | k+1=>ltS W (lt2 W k) k
def Sg (W:Nat->Int) (k:Nat) (a:Int):Prop:=a=-1\/∃ p:Nat,a=p/\p<k/\W p ≠ 0
theorem Sg.mono {W:Nat->Int} {k j:Nat} {a:Int} (h:Sg W k a) (hk:k<=j):Sg W j a:=by
 rcases h with h | ⟨p,h1,h2,h3⟩
 ·exact .inl h
 ·exact .inr ⟨p,h1,by omega,h3⟩
theorem ZdE (W:Nat->Int):∀ k,Sg W k (lt2 W k).1/\Sg W k (lt2 W k).2:=by
 intro k
 induction k with
 | zero=>exact ⟨.inl rfl,.inl rfl⟩
 | succ k ih =>
  have i1:=ih.1.mono (Nat.le_succ k);have i2:=ih.2.mono (Nat.le_succ k);rw [lt2,ltS];by_cases h0:W k=0
  ·rw [if_pos h0];exact ⟨i1,i2⟩
  ·have hk:Sg W (k+1) (k:Int):=.inr ⟨k,rfl,by omega,h0⟩;rw [if_neg h0];split
   ·exact ⟨hk,i1⟩
   ·split
    ·exact ⟨i1,hk⟩
    ·exact ⟨i1,i2⟩
end Cd
theorem ZdG (W:Nat->Int) (w:World) :
 Calls Tryz.prog 180 #[.agg (arr W)] w fun e w'=>e=.returned (.tuple #[.int .i64 (Cd.lt2 W 16).1,.int .i64 (Cd.lt2 W 16).2])/\Below w.heap.size w w':=by
 have hat:=Zcc W;have hin:=Zc W;have hix:=ZjP W;have hbel:∀ o,Below w.heap.size w (w.alloc o):=fun o=>(bR _ _).alloc (nl _) o
 generalize hE:Cd.lt2 W 16=E at *;have HE:Hid (Cd.lt2 W 16=E):=hE;clear hE;go_enter Tryz.func180,Tryz.ntmps180
 go_wp2_with (refine wpList_load_row rfl 127 _ rfl w.heap.size rfl 127 (arr W) (0,0) _ (heap_alloc_last w _) U127 rfl hin ?_)
 go_loop [4,5,9] (fun a b i=>∃ (k:Nat) (A B:Int),k<=16/\i=.int .i64 k/\a=.int .i64 A/\b=.int .i64 B/\Hid (Cd.lt2 W k=(A,B))) (fun _ _ i=>16 - (intOf i).toNat)
 case atStart=>exact ⟨0,-1,-1,by omega,rfl,rfl,rfl,rfl⟩
 case round =>
  obtain ⟨k,A,B,hk,rfl,rfl,rfl,hL⟩:=hrel;by_cases hlt:k<16
  ·have hi:=hix k hlt;have hk1:decide ((k:Int)<16)=true:=by simp;omega
   have hk2:decide (k<16)=true:=by simp;omega
   have hk0:(0:Int)<=(k:Int):=by omega
   have HN:Hid (Cd.lt2 W (k+1)=Cd.ltS W (A,B) k):=by show _=_;rw [Cd.lt2,hL.out]
   have SA:Hid (Cd.Sg W k A/\Cd.Sg W k B):=by have:=Cd.ZdE W k;rw [hL.out] at this;exact this
   by_cases h0:W k=0
   ·have HN':Hid (Cd.lt2 W (k+1)=(A,B)):=by show _=_;rw [HN.out,Cd.ltS,if_pos h0]
    rw [h0] at hi;clear hix h0 hat hin;go_wp2_with fail
    exact ⟨⟨k+1,A,B,by omega,by go_num,rfl,rfl,HN'⟩,by simp [intOf];omega⟩
   ·have d0:(W k == 0)=false:=by simpa using h0
    by_cases hA:A=-1
    ·have HN':Hid (Cd.lt2 W (k+1)=((k:Int),-1)):=by show _=_;rw [HN.out,Cd.ltS,if_neg h0,if_pos (.inl hA),hA]
     subst hA;generalize W k=y at *;clear hix h0 hat hin;go_wp2_with fail
     exact ⟨⟨k+1,_,_,by omega,by go_num,rfl,rfl,HN'⟩,by simp [intOf];omega⟩
    ·obtain ⟨p,rfl,hp,_⟩:=SA.out.1.resolve_left hA;have dA:((p:Int) == -1)=false:=by simp
     have hcp:=hat p (by omega);have hp1:(p:Int)<16:=by omega
     by_cases hx:W k<W p
     ·have HN':Hid (Cd.lt2 W (k+1)=((k:Int),(p:Int))):=by show _=_;rw [HN.out,Cd.ltS,if_neg h0,if_pos (.inr hx)]
      have dx:decide (W k<W p)=true:=by simpa using hx
      generalize W k=y at *;generalize W p=z at *;clear hix h0 hat hin hA hx;go_wp2_with fail
      exact ⟨⟨k+1,_,_,by omega,by go_num,rfl,rfl,HN'⟩,by simp [intOf];omega⟩
     ·have dx:decide (W k<W p)=false:=by simpa using hx
      have hnot:¬ ((p:Int)=-1\/W k<W (p:Int).toNat):=fun h=>h.elim hA hx
      by_cases hB:B=-1
      ·have HN':Hid (Cd.lt2 W (k+1)=((p:Int),(k:Int))):=by show _=_;rw [HN.out,Cd.ltS,if_neg h0,if_neg hnot,if_pos (.inl hB)]
       subst hB;generalize W k=y at *;generalize W p=z at *;clear hix h0 hat hin hA hx hnot;go_wp2_with fail
       exact ⟨⟨k+1,_,_,by omega,by go_num,rfl,rfl,HN'⟩,by simp [intOf];omega⟩
      ·obtain ⟨q,rfl,hq,_⟩:=SA.out.2.resolve_left hB;have dB:((q:Int) == -1)=false:=by simp
       have hcq:=hat q (by omega);have hq1:(q:Int)<16:=by omega
       by_cases hy:W k<W q
       ·have HN':Hid (Cd.lt2 W (k+1)=((p:Int),(k:Int))):=by show _=_;rw [HN.out,Cd.ltS,if_neg h0,if_neg hnot,if_pos (.inr hy)]
        have dy:decide (W k<W q)=true:=by simpa using hy
        generalize W k=y at *;generalize W p=z at *;generalize W q=z2 at *;clear hix h0 hat hin hA hx hB hy hnot;go_wp2_with fail
        exact ⟨⟨k+1,_,_,by omega,by go_num,rfl,rfl,HN'⟩,by simp [intOf];omega⟩
       ·have HN':Hid (Cd.lt2 W (k+1)=((p:Int),(q:Int))):=by show _=_;rw [HN.out,Cd.ltS,if_neg h0,if_neg hnot,if_neg (fun h=>h.elim hB hy)]
        have dy:decide (W k<W q)=false:=by simpa using hy
        generalize W k=y at *;generalize W p=z at *;generalize W q=z2 at *;clear hix h0 hat hin hA hx hB hy hnot;go_wp2_with fail
        exact ⟨⟨k+1,_,_,by omega,by go_num,rfl,rfl,HN'⟩,by simp [intOf];omega⟩
  ·obtain rfl:k=16:=by omega
   have h9:=HE.out.symm.trans hL.out;subst h9;clear hix hat hin;go_wp2_with fail
   go_ret2
   exact ⟨rfl,hbel _⟩
def upd (f:Nat->Int) (k:Nat) (v:Int):Nat->Int:=fun i=>if i=k then v else f i
theorem ZD (f:Nat->Int) (k:Nat) (v:Int):upd f k v k=v:=by simp [upd]
theorem Zg (f:Nat->Int) {k i:Nat} (v:Int) (h:i ≠ k):upd f k v i=f i:=by simp [upd,h]
theorem ZnU {f g:Nat->Int} (h:∀ i,i<16->f i=g i):arr f=arr g:=by
 unfold arr
 congr 1
 apply List.map_congr_left;intro i hi;rw [h i (List.mem_range.1 hi)]
theorem ZtN (f:Nat->Int) (k:Nat) (v:Int):(arr f).setIfInBounds k (.int .i64 v)=arr (upd f k v):=by
 apply Array.ext_getElem?;intro i;rw [Array.getElem?_setIfInBounds,Zi];by_cases hi:i<16
 ·rw [Zcc _ i hi,Zcc _ i hi];by_cases h:k=i
  ·subst h;simp [upd,hi]
  ·have h':¬ i=k:=fun e=>h e.symm
   simp [upd,h,h']
 ·have h1:(arr f)[i]?=none:=by rw [Array.getElem?_eq_none];rw [Zi];omega
  have h2:(arr (upd f k v))[i]?=none:=by rw [Array.getElem?_eq_none];rw [Zi];omega
  rw [h1,h2];split
  ·rename_i h;subst h;simp [hi]
  ·rfl
theorem Zm:(#[.int .i64 0,.int .i64 0,.int .i64 0,.int .i64 0,.int .i64 0,.int .i64 0,.int .i64 0,.int .i64 0,.int .i64 0,.int .i64 0,.int .i64 0,.int .i64 0,.int .i64 0,.int .i64 0,.int .i64 0,.int .i64 0]:Array Value)=arr (fun _=>0):=rfl
theorem ZW (f:Nat->Int):(arr f).all (·.oneCell')=true:=by
 rw [Array.all_eq_true_iff_forall_mem];intro v hv;simp [arr] at hv;obtain ⟨i,_,rfl⟩:=hv;rfl
theorem RowAt.set {w:World} {g:Nat} {f:Nat->Int} (h:RowAt w g f) (k:Nat) (v:Int):RowAt (w.setCell ⟨g,k,none⟩ (.int .i64 v)) g (upd f k v):=by
 refine ⟨by have:=h.1;simpa [World.setCell] using this,?_⟩;show (w.heap.modify g _)[g]?=_;rw [Array.getElem?_modify,if_pos rfl,h.2];simp only [Option.map_some,Option.isSome_none,Bool.false_eq_true,if_false];rw [ZtN]
theorem RowAt.setFar {w:World} {g:Nat} {f:Nat->Int} (h:RowAt w g f) {q:Nat} (hq:q ≠ g) (k:Nat) (v:Value):RowAt (w.setCell ⟨q,k,none⟩ v) g f:=by
 refine ⟨by have:=h.1;simpa [World.setCell] using this,?_⟩;show (w.heap.modify q _)[g]?=_;rw [Array.getElem?_modify,if_neg hq,h.2]
theorem RowAt.setRow {w:World} {g:Nat} {f:Nat->Int} (h:RowAt w g f) (f':Nat->Int):RowAt (w.setRow g (arr f')) g f':=by
 refine ⟨by have:=h.1;simpa [World.setRow] using this,?_⟩;show (w.heap.modify g _)[g]?=_;rw [Array.getElem?_modify,if_pos rfl,h.2];rfl
theorem RowAt.setRowFar {w:World} {g:Nat} {f:Nat->Int} (h:RowAt w g f) {q:Nat} (hq:q ≠ g) (c:Array Value):RowAt (w.setRow q c) g f:=by
 refine ⟨by have:=h.1;simpa [World.setRow] using this,?_⟩;show (w.heap.modify q _)[g]?=_;rw [Array.getElem?_modify,if_neg hq,h.2]
theorem Zq {B:Nat} {a w:World} (h:Below B a w) {g:Nat} (hg:B<=g) (c:Array Value):Below B a (w.setRow g c):=by
 refine ⟨h.os,h.tape,h.output,by have:=h.size;simpa [World.setRow] using this,fun k hk=>?_⟩;show (w.heap.modify g _)[k]?=_;rw [Array.getElem?_modify,if_neg (by omega),h.block k hk]
theorem RowAt.frozen {w:World} {g:Nat} {f:Nat->Int} (h:RowAt w g f) (k:Nat):w.frozen? ⟨g,k,none⟩=false:=by
 simp [World.frozen?,h.2]
theorem RowAt.congr {w:World} {g:Nat} {f f':Nat->Int} (h:RowAt w g f) (hf:∀ i,i<16->f i=f' i):RowAt w g f':=⟨h.1,by rw [h.2,ZnU hf]⟩
namespace Cd
def rW (W:Nat->Int) (p q:Nat):Nat->Int:=upd (upd (upd W p 0) q 0) (min p q) (W p+W q)
def rT (T:Nat->Int) (p q:Nat):Nat->Int:=fun i=>if T i=p\/T i=q then (min p q:Nat) else T i
def rL (T L:Nat->Int) (p q:Nat):Nat->Int:=fun i=>if T i=p\/T i=q then L i+1 else L i
def bldR:Nat->(Nat->Int)->(Nat->Int)->(Nat->Int)->(Nat->Int)
 | 0,_,_,L=>L
 | n+1,W,T,L=>if (lt2 W 16).2=-1 then L else bldR n (rW W (lt2 W 16).1.toNat (lt2 W 16).2.toNat) (rT T (lt2 W 16).1.toNat (lt2 W 16).2.toNat) (rL T L (lt2 W 16).1.toNat (lt2 W 16).2.toNat)
def bld (c:Nat->Int):(Nat->Int) × Int :=
 if ¬ InR c 2048 16 then (fun _=>0,3) else if (lt2 c 16).1=-1 then (fun _=>0,5) else if (lt2 c 16).2=-1 then (upd (fun _=>0) (lt2 c 16).1.toNat 1,0) else (bldR 16 c (fun i=>i) (fun _=>0),0)
def cnt (W:Nat->Int):Nat->Nat
 | 0=>0
 | k+1=>cnt W k+(if W k=0 then 0 else 1)
def tot (W:Nat->Int):Nat->Int
 | 0=>0
 | k+1=>tot W k+W k
theorem ZsO {W:Nat->Int} {p:Nat} {v:Int}:∀ k,k<=p->cnt (upd W p v) k=cnt W k:=by
 intro k
 induction k with
 | zero=>intro _;rfl
 | succ k ih=>intro h;rw [cnt,cnt,ih (by omega),Zg _ _ (by omega)]
theorem ZtI {W:Nat->Int} {p:Nat} {v:Int}:∀ k,k<=p->tot (upd W p v) k=tot W k:=by
 intro k
 induction k with
 | zero=>intro _;rfl
 | succ k ih=>intro h;rw [tot,tot,ih (by omega),Zg _ _ (by omega)]
theorem ZiM {W:Nat->Int} {p:Nat} {v:Int}:∀ k,p<k->cnt (upd W p v) k+(if W p=0 then 0 else 1)=cnt W k+(if v=0 then 0 else 1):=by
 intro k
 induction k with
 | zero=>intro h;omega
 | succ k ih =>
  intro h;rw [cnt,cnt];by_cases hk:p=k
  ·subst hk;rw [ZsO p (Nat.le_refl _),ZD];omega
  ·have:=ih (by omega);rw [Zg _ _ (by omega)];omega
theorem ZeK {W:Nat->Int} {p:Nat} {v:Int}:∀ k,p<k->tot (upd W p v) k+W p=tot W k+v:=by
 intro k
 induction k with
 | zero=>intro h;omega
 | succ k ih =>
  intro h;rw [tot,tot];by_cases hk:p=k
  ·subst hk;rw [ZtI p (Nat.le_refl _),ZD];omega
  ·have:=ih (by omega);rw [Zg _ _ (by omega)];omega
theorem ZgK {W:Nat->Int}:∀ k,(∀ i,i<k->0<=W i)->0<=tot W k:=by
 intro k
 induction k with
 | zero=>intro _;exact Int.le_refl _
 | succ k ih=>intro h;rw [tot];have:=h k (by omega);have:=ih (fun i hi=>h i (by omega));omega
theorem Ztx {W:Nat->Int} {p q:Nat} (h:∀ i,i<16->0<=W i) (hp:p<16) (hq:q<16) (hne:p ≠ q):W p+W q<=tot W 16:=by
 have h1:=ZeK (W:=W) (p:=p) (v:=0) 16 hp;have h2:=ZeK (W:=upd W p 0) (p:=q) (v:=0) 16 hq;rw [Zg _ _ (fun e=>hne e.symm)] at h2;have h3:=ZgK (W:=upd (upd W p 0) q 0) 16 (fun i hi=>by unfold upd;split;omega;split;omega;exact h i hi);omega
theorem ZhB (W:Nat->Int):∀ k,cnt W k<=k:=by
 intro k
 induction k with
 | zero=>exact nl _
 | succ k ih=>rw [cnt];split <;> omega
theorem ZtX {W:Nat->Int}:∀ k,InR W 2048 k->tot W k<=2048*k:=by
 intro k
 induction k with
 | zero=>intro _;simp [tot]
 | succ k ih=>intro h;rw [tot];have:=h k (by omega);have:=ih (fun i hi=>h i (by omega));omega
theorem ZfA {n:Nat} {W T L:Nat->Int} (h:(lt2 W 16).2=-1):bldR n W T L=L:=by
 cases n with
 | zero=>rfl
 | succ n=>rw [bldR,if_pos h]
theorem ZeL {n:Nat} {W T L:Nat->Int} {p q:Nat} (h:lt2 W 16=((p:Int),(q:Int))):bldR (n+1) W T L=bldR n (rW W p q) (rT T p q) (rL T L p q):=by
 rw [bldR,h,if_neg (by simp only;omega)];rfl
theorem rL_b {T L:Nat->Int} {p q n:Nat} (h:∀ i,0<=L i/\L i+(n+1:Nat)<=16):∀ i,0<=rL T L p q i/\rL T L p q i+(n:Nat)<=16:=by
 intro i;have:=h i;unfold rL;split <;> omega
theorem ZuK (W:Nat->Int):∀ k,(lt2 W k).1=(lt2 W k).2->(lt2 W k).1=-1:=by
 intro k
 induction k with
 | zero=>intro _;rfl
 | succ k ih =>
  have hs:=ZdE W k
  have far:∀ a,Sg W k a->a ≠ (k:Int):=by
   intro a h e;rcases h with h | ⟨p,h1,h2,_⟩ <;> omega
  rw [lt2,ltS];by_cases h0:W k=0
  ·rw [if_pos h0];exact ih
  ·rw [if_neg h0];split
   ·intro h;exact absurd h.symm (far _ hs.1)
   ·split
    ·intro h;exact absurd h (far _ hs.1)
    ·exact ih
theorem Zcm {W:Nat->Int} (h:(lt2 W 16).2 ≠ -1):∃ p q:Nat,lt2 W 16=((p:Int),(q:Int))/\p<16/\q<16/\p ≠ q/\W p ≠ 0/\W q ≠ 0:=by
 have first:∀ k,(lt2 W k).1=-1->(lt2 W k).2=-1:=by
  intro k
  induction k with
  | zero=>intro _;rfl
  | succ k ih =>
   rw [lt2,ltS];by_cases h0:W k=0
   ·rw [if_pos h0];exact ih
   ·rw [if_neg h0];split
    ·intro h9;simp only at h9;omega
    ·rename_i h9
     split
     ·intro h8;exact absurd (Or.inl h8) h9
     ·intro h8;exact absurd (Or.inl h8) h9
 obtain ⟨s1,s2⟩:=ZdE W 16;rcases s2 with s2 | ⟨q,e2,hq,n2⟩
 ·exact absurd s2 h
 rcases s1 with s1 | ⟨p,e1,hp,n1⟩
 ·exact absurd (first 16 s1) h
 refine ⟨p,q,by rw [<-e1,<-e2],hp,hq,?_,n1,n2⟩;intro e;have:=ZuK W 16 (by rw [e1,e2,e]);omega
theorem Zjv {W:Nat->Int} {p q:Nat} (h:∀ i,i<16->0<=W i) (hp:p<16) (hq:q<16):∀ i,i<16->0<=rW W p q i:=by
 intro i hi;have h1:=h p hp;have h2:=h q hq;have h3:=h i hi;unfold rW upd;split
 ·omega
 ·split
  ·omega
  ·split
   ·omega
   ·exact h3
theorem Zku {W:Nat->Int} {p q:Nat} (h:∀ i,i<16->0<=W i) (hp:p<16) (hq:q<16) (hne:p ≠ q) (n1:W p ≠ 0) (n2:W q ≠ 0):cnt (rW W p q) 16+1=cnt W 16/\tot (rW W p q) 16=tot W 16/\2<=cnt W 16:=by
 have h1:=h p hp;have h2:=h q hq;have c1:=ZiM (W:=W) (p:=p) (v:=0) 16 hp;have c2:=ZiM (W:=upd W p 0) (p:=q) (v:=0) 16 hq;have c3:=ZiM (W:=upd (upd W p 0) q 0) (p:=min p q) (v:=W p+W q) 16 (by omega);have t1:=ZeK (W:=W) (p:=p) (v:=0) 16 hp;have t2:=ZeK (W:=upd W p 0) (p:=q) (v:=0) 16 hq;have t3:=ZeK (W:=upd (upd W p 0) q 0) (p:=min p q) (v:=W p+W q) 16 (by omega)
 have z:upd (upd W p 0) q 0 (min p q)=0:=by
  unfold upd;split
  ·rfl
  ·rename_i h9
   rw [if_pos];omega
 have hn:¬ W p+W q=0:=by omega
 rw [Zg _ _ (fun e=>hne e.symm)] at c2 t2;rw [z] at c3 t3;simp only [if_neg n1,if_neg n2,if_neg hn,if_true] at c1 c2 c3;unfold rW;refine ⟨?_,?_,?_⟩ <;> omega
end Cd
theorem Zop (w:World) (c:Nat->Int) (o:Nat->Int):RowAt (((w.alloc (.cells (arr c) 127)).alloc (.cells (arr o) 127)).alloc (.cells (arr o) 127)) w.heap.size c ∧
 RowAt (((w.alloc (.cells (arr c) 127)).alloc (.cells (arr o) 127)).alloc (.cells (arr o) 127)) (w.heap.size+1) o ∧
 RowAt (((w.alloc (.cells (arr c) 127)).alloc (.cells (arr o) 127)).alloc (.cells (arr o) 127)) (w.heap.size+1+1) o ∧
 Below w.heap.size w (((w.alloc (.cells (arr c) 127)).alloc (.cells (arr o) 127)).alloc (.cells (arr o) 127)):=by
 obtain ⟨h1,h2⟩:=RowAt.two w c o;refine ⟨h1.alloc _,h2.alloc _,?_,(Zkk w _ _).alloc (by simp;omega) _⟩;have:=RowAt.new ((w.alloc (.cells (arr c) 127)).alloc (.cells (arr o) 127)) o;simpa using this
theorem ZM {P:Program} {fn:Func} {p:Tmp} {ty:TypeId} {q:Tmp} (h:fn.results=#[.cell p ty,.tmp q]) (tmps:Array Value) (w:World) (g:Nat) (t:TypeId) (cs:Array Value) (fr:Nat × Nat) (d:TypeDesc)
 (hp:tmps.getD p undef=.pointer (some ⟨g,0,none⟩)) (hg:w.heap[g]?=some (.cells cs t fr))
 (hu:P.underlying ty=some d) (hd:(match d with | .struct _ | .array _ _=>true | _=>false)=true) (hi:(P.info? ty).map (·.size)=some cs.size) (v:Value) (hq:tmps.getD q undef=v) :
 (results fn tmps).run P w=.ok (.tuple #[.agg cs,v]) w:=by
 subst hq;have hp':tmps[p]?.getD undef=.pointer (some ⟨g,0,none⟩):=by simpa using hp
 simp [results,h,hp',asAddr,run_loadVar_row w g t ty cs fr d hg hu hd hi]
theorem Zit (c:Nat->Int) (w:World) (h1:¬ Cd.InR c 2048 16) :
 Calls Tryz.prog 160 #[.agg (arr c)] w fun e w'=>e=.returned (.tuple #[.agg (arr (fun _=>0)),.int .i64 3])/\Below w.heap.size w w':=by
 have hcn:=fun w=>ZcS c w
 rw [decide_eq_false h1] at hcn;have hin:=Zc c;have hz:=Zc (fun _=>0);obtain ⟨R1,R2,R4,HB⟩:=Zop w c (fun _=>0);rw [<-Zm] at R1 R2 R4 HB;clear h1;go_enter Tryz.func160,Tryz.ntmps160
 go_wp2_with (refine wpList_load_row rfl 127 _ rfl w.heap.size rfl 127 (arr c) (0,0) _ R1.2 U127 rfl hin ?_)
 refine (hcn _).mono ?_;rintro e w1 ⟨rfl,G1⟩;have S2:=R2.below G1;have S4:=R4.below G1;have B1:=bch HB G1 (nl _);clear R1 R2 R4 HB G1 hcn;go_wp2_with (first | refine wpList_load_row rfl 127 _ rfl (w.heap.size+1+1) rfl 127 (arr fun _=>0) (0,0) _ S4.2 U127 rfl hz ?_ | refine wpList_store_row rfl 127 _ _ rfl (w.heap.size+1) (arr fun _=>0) rfl rfl 127 _ S2.2 hz rfl (ZW _) ?_)
 have U2:=S2.setRow (fun _=>0);exact bodyPost_ret (v:=.tuple #[.agg (arr fun _=>0),.int .i64 3]) (ZM Tryz.results160 _ _ (w.heap.size+1) 127 _ (0,0) _ rfl U2.2 U127 rfl hz _ rfl) rfl ⟨rfl,Zq B1 (Nat.le_succ _) _⟩
structure Rows4 (wr:World) (g2 g4 g5 g6:Nat) (L W T:Nat->Int):Prop where
 r2:RowAt wr g2 (fun _=>0)
 r4:RowAt wr g4 L
 r5:RowAt wr g5 W
 r6:RowAt wr g6 T
theorem Rows4.below {wr w':World} {g2 g4 g5 g6:Nat} {L W T:Nat->Int} (h:Rows4 wr g2 g4 g5 g6 L W T) (hb:Below wr.heap.size wr w'):Rows4 w' g2 g4 g5 g6 L W T:=⟨h.r2.below hb,h.r4.below hb,h.r5.below hb,h.r6.below hb⟩
theorem Rows4.set4 {wr:World} {g2 g4 g5 g6:Nat} {L W T:Nat->Int} (h:Rows4 wr g2 g4 g5 g6 L W T) (hq:g2<g4/\g4<g5/\g5<g6) (k:Nat) (v:Int):Rows4 (wr.setCell ⟨g4,k,none⟩ (.int .i64 v)) g2 g4 g5 g6 (upd L k v) W T :=
 ⟨h.r2.setFar (by omega) _ _,h.r4.set _ _,h.r5.setFar (by omega) _ _,h.r6.setFar (by omega) _ _⟩
theorem Rows4.set5 {wr:World} {g2 g4 g5 g6:Nat} {L W T:Nat->Int} (h:Rows4 wr g2 g4 g5 g6 L W T) (hq:g2<g4/\g4<g5/\g5<g6) (k:Nat) (v:Int):Rows4 (wr.setCell ⟨g5,k,none⟩ (.int .i64 v)) g2 g4 g5 g6 L (upd W k v) T :=
 ⟨h.r2.setFar (by omega) _ _,h.r4.setFar (by omega) _ _,h.r5.set _ _,h.r6.setFar (by omega) _ _⟩
theorem Rows4.set6 {wr:World} {g2 g4 g5 g6:Nat} {L W T:Nat->Int} (h:Rows4 wr g2 g4 g5 g6 L W T) (hq:g2<g4/\g4<g5/\g5<g6) (k:Nat) (v:Int):Rows4 (wr.setCell ⟨g6,k,none⟩ (.int .i64 v)) g2 g4 g5 g6 L W (upd T k v) :=
 ⟨h.r2.setFar (by omega) _ _,h.r4.setFar (by omega) _ _,h.r5.setFar (by omega) _ _,h.r6.set _ _⟩
theorem ZmH {w1:World} {g2 g4:Nat} (c:Nat->Int) (S2:RowAt w1 g2 (fun _=>0)) (S4:RowAt w1 g4 (fun _=>0)):Rows4 ((w1.alloc (.cells (arr c) 127)).alloc (.cells (arr fun _=>0) 127)) g2 g4 w1.heap.size (w1.heap.size+1) (fun _=>0) c (fun _=>0):=by
 obtain ⟨h1,h2⟩:=RowAt.two w1 c (fun _=>0);exact ⟨(S2.alloc _).alloc _,(S4.alloc _).alloc _,h1,h2⟩
theorem Zqk (c:Nat->Int) (w:World) (h1:Cd.InR c 2048 16) :
 Calls Tryz.prog 160 #[.agg (arr c)] w fun e w'=>e=.returned (.tuple #[.agg (arr (Cd.bld c).1),.int .i64 (Cd.bld c).2])/\Below w.heap.size w w':=by
 have hcn:=fun w=>ZcS c w
 rw [decide_eq_true h1] at hcn;have hin:=Zc c;have hz:=Zc (fun _=>0);obtain ⟨R1,R2,R4,HB⟩:=Zop w c (fun _=>0);rw [<-Zm] at R1 R2 R4 HB;have HR:Hid (Cd.InR c 2048 16):=h1;clear h1
 obtain ⟨r1,r2,hr⟩:∃ r1 r2,Cd.bld c=(r1,r2):=⟨_,_,rfl⟩
 rw [hr];have Hr:Hid (Cd.bld c=(r1,r2)):=hr;clear hr;go_enter Tryz.func160,Tryz.ntmps160
 go_wp2_with (refine wpList_load_row rfl 127 _ rfl w.heap.size rfl 127 (arr c) (0,0) _ R1.2 U127 rfl hin ?_)
 refine (hcn _).mono ?_;rintro e w1 ⟨rfl,G1⟩;have S1:=R1.below G1;have S2:=R2.below G1;have S4:=R4.below G1;have B1:=bch HB G1 (nl _);clear R1 R2 R4 HB G1 hcn;have hs2:=S4.1;have F:=ZmH c S2 S4;have B3:Below w.heap.size w ((w1.alloc (.cells (arr c) 127)).alloc (.cells (arr fun _=>0) 127)):=(B1.alloc (by omega) _).alloc (by simp;omega) _;rw [<-Zm] at F B3;go_wp2_with (first | refine wpList_load_row rfl 127 _ rfl w.heap.size rfl 127 (arr c) (0,0) _ S1.2 U127 rfl hin ?_ | (refine wpList_store_row rfl 127 _ _ rfl w1.heap.size (arr c) rfl rfl 127 _ (heap_alloc_last w1 _) hin rfl (ZW _) ?_;rw [World.setRow_alloc_new]))
 clear S1 S2 S4 B1;have hq0:w.heap.size+1<w.heap.size+1+1/\w.heap.size+1+1<w1.heap.size/\w1.heap.size<w1.heap.size+1:=by omega
 have hN:w.heap.size<=w.heap.size+1:=by omega
 clear hs2;rw [Zm] at F B3;rw [Zm];generalize (w1.alloc (.cells (arr c) 127)).alloc (.cells (arr fun _=>0) 127)=w2 at *;generalize w.heap.size+1+1=g4 at *;generalize w.heap.size+1=g2 at *;generalize w1.heap.size+1=g6 at *;generalize w1.heap.size=g5 at *;have hq:Hid (g2<g4/\g4<g5/\g5<g6):=hq0;have hN':Hid (w.heap.size<=g2):=hN;clear hq0 hN;go_loopw [19] (fun i wr=>∃ k:Nat,k<=16/\i=.int .i64 k/\Rows4 wr g2 g4 g5 g6 (fun _=>0) c (fun i=>if i<k then i else 0)/\Below w.heap.size w wr) (fun i _=>16 - (intOf i).toNat)
 case atStart=>exact ⟨0,by omega,rfl,⟨F.r2,F.r4,F.r5,F.r6.congr (fun i _=>by simp)⟩,B3⟩
 case round =>
  obtain ⟨k,hk,rfl,F,B⟩:=hrel;by_cases hlt:k<16
  ·have hk1:decide ((k:Int)<16)=true:=by simp;omega
   have hk2:decide (k<16)=true:=by simp;omega
   have hc6:=F.r6.cell k hlt;have hf6:=F.r6.frozen k;go_wp2_with fail
   go_roundw
   case rel =>
    refine ⟨k+1,by omega,by go_num,?_,B.setCell (by have:=hq.out;have:=hN'.out;show _<=g6;omega) _⟩;have F':=F.set6 hq.out k (k:Int);refine ⟨F'.r2,F'.r4,F'.r5,F'.r6.congr (fun i hi=>?_)⟩;show upd _ k (k:Int) i=if i<k+1 then (i:Int) else 0
    unfold upd;simp only;by_cases h9:i=k
    ·subst h9;simp
    ·rw [if_neg h9];by_cases h8:i<k
     ·rw [if_pos h8,if_pos (by omega)]
     ·rw [if_neg h8,if_neg (by omega)]
   case measure=>simp [intOf];omega
  ·have F1:Rows4 wr g2 g4 g5 g6 (fun _=>0) c (fun i=>i):=⟨F.r2,F.r4,F.r5,F.r6.congr (fun i hi=>by rw [if_pos (by omega)])⟩
   obtain rfl:k=16:=by omega
   clear F;have hlg:=fun w=>ZdG c w
   obtain ⟨A,B',hAB⟩:∃ A B,Cd.lt2 c 16=(A,B):=⟨_,_,rfl⟩
   rw [hAB] at hlg;have HAB:Hid (Cd.lt2 c 16=(A,B')):=hAB;clear hAB;go_wp2_with (refine wpList_load_row rfl 127 _ rfl g5 rfl 127 (arr c) (0,0) _ F1.r5.2 U127 rfl hin ?_)
   refine (hlg _).mono ?_;rintro e w3 ⟨rfl,G3⟩;have F3:=F1.below G3;have B3':=bch B G3 (nl _);clear F1 G3 hlg B;by_cases hA:A=-1
   ·have h9:=Hr.out.symm.trans (show Cd.bld c=(fun _=>0,5) by rw [Cd.bld,if_neg (fun h=>h HR.out),if_pos (by rw [HAB.out];exact hA)]);simp only [Prod.mk.injEq] at h9;obtain ⟨rfl,rfl⟩:=h9;subst hA;go_wp2_with (first | refine wpList_load_row rfl 127 _ rfl g4 rfl 127 (arr fun _=>0) (0,0) _ F3.r4.2 U127 rfl hz ?_ | refine wpList_store_row rfl 127 _ _ rfl g2 (arr fun _=>0) rfl rfl 127 _ F3.r2.2 hz rfl (ZW _) ?_)
    have U2:=F3.r2.setRow (fun _=>0);exact bodyPost_ret (v:=.tuple #[.agg (arr fun _=>0),.int .i64 5]) (ZM Tryz.results160 _ _ g2 127 _ (0,0) _ rfl U2.2 U127 rfl hz _ rfl) rfl ⟨rfl,Zq B3' hN'.out _⟩
   ·have dA:(A == -1)=false:=by simpa using hA
    obtain ⟨p,rfl,hp,_⟩:∃ p:Nat,A=p/\p<16/\c p ≠ 0:=by
     have:=(Cd.ZdE c 16).1;rw [HAB.out] at this;exact this.resolve_left hA
    clear hA;have hp1:(p:Int)<16:=by omega
    by_cases hB:B'=-1
    ·have h9:=Hr.out.symm.trans (show Cd.bld c=(upd (fun _=>0) p 1,0) by rw [Cd.bld,if_neg (fun h=>h HR.out),if_neg (by rw [HAB.out];simp only;omega),if_pos (by rw [HAB.out];exact hB),HAB.out];rfl);simp only [Prod.mk.injEq] at h9;obtain ⟨rfl,rfl⟩:=h9;subst hB;have hc4:=F3.r4.cell p hp;have hf4:=F3.r4.frozen p;have F4:=F3.set4 hq.out p 1;have hi1:=Zc (upd (fun _=>0) p 1);go_wp2_with fail
     refine wp_loop_rounds 1 ?_;rw [rounds_succ];go_wp2_with (first | refine wpList_load_row rfl 127 _ rfl g4 rfl 127 (arr (upd (fun _=>0) p 1)) (0,0) _ F4.r4.2 U127 rfl hi1 ?_ | refine wpList_store_row rfl 127 _ _ rfl g2 (arr (upd (fun _=>0) p 1)) rfl rfl 127 _ F4.r2.2 hi1 (by rw [Zi,Zi]) (ZW _) ?_)
     have U2:=F4.r2.setRow (upd (fun _=>0) p 1);exact bodyPost_ret (v:=.tuple #[.agg (arr (upd (fun _=>0) p 1)),.int .i64 0]) (ZM Tryz.results160 _ _ g2 127 _ (0,0) _ rfl U2.2 U127 rfl hi1 _ rfl) rfl ⟨rfl,Zq (B3'.setCell (by have:=hq.out;have:=hN'.out;show _<=g4;omega) _) hN'.out _⟩
    ·have dB:(B' == -1)=false:=by simpa using hB
     have h9:=Hr.out.symm.trans (show Cd.bld c=(Cd.bldR 16 c (fun i=>i) (fun _=>0),0) by rw [Cd.bld,if_neg (fun h=>h HR.out),if_neg (by rw [HAB.out];simp only;omega),if_neg (by rw [HAB.out];exact hB)]);simp only [Prod.mk.injEq] at h9;obtain ⟨h8,rfl⟩:=h9
     have H8:Hid ((∀ i,i<16->0<=c i)/\Cd.tot c 16<=32768/\Cd.cnt c 16<=16/\(∀ i,0<=(fun _:Nat=>(0:Int)) i/\(fun _:Nat=>(0:Int)) i+(16:Nat)<=16)/\Cd.bldR 16 c (fun i=>i) (fun _=>0)=r1) :=
      ⟨fun i hi=>(HR.out i hi).1,by have:=Cd.ZtX 16 HR.out;omega,Cd.ZhB c 16,fun i=>⟨Int.le_refl _,by simp⟩,h8.symm⟩
     clear h8 hB;go_wp2_with fail
     go_loopg [8,9] 16 (fun n a b wr=>∃ (W T L:Nat->Int) (A B:Int),a=.int .i64 A/\b=.int .i64 B/\Hid (Cd.lt2 W 16=(A,B))/\Rows4 wr g2 g4 g5 g6 L W T/\Below w.heap.size w wr/\Hid ((∀ i,i<16->0<=W i)/\Cd.tot W 16<=32768/\Cd.cnt W 16<=n/\(∀ i,0<=L i/\L i+(n:Nat)<=16)/\Cd.bldR n W T L=r1))
     case atStart=>exact ⟨c,fun i=>i,fun _=>0,p,B',rfl,rfl,HAB,F3,B3',H8⟩
     case round =>
      clear HAB F3 B3' H8 dA dB hp1 hp;obtain ⟨W,T,L,A,B',rfl,rfl,HAB,F3,B3',H8⟩:=hrel;by_cases hB:B'=-1
      ·have e:L=r1:=by
        have:=H8.out.2.2.2.2
        rwa [Cd.ZfA (by rw [HAB.out];exact hB)] at this
       subst e;subst hB;have hi1:=Zc L;go_wp2_with (first | refine wpList_load_row rfl 127 _ rfl g4 rfl 127 (arr L) (0,0) _ F3.r4.2 U127 rfl hi1 ?_ | refine wpList_store_row rfl 127 _ _ rfl g2 (arr L) rfl rfl 127 _ F3.r2.2 hi1 (by rw [Zi,Zi]) (ZW _) ?_)
       have U2:=F3.r2.setRow L;exact bodyPost_ret (v:=.tuple #[.agg (arr L),.int .i64 0]) (ZM Tryz.results160 _ _ g2 127 _ (0,0) _ rfl U2.2 U127 rfl hi1 _ rfl) rfl ⟨rfl,Zq B3' hN'.out _⟩
      ·obtain ⟨p,q,hpq,hp,hq1,hne,n1,n2⟩:=Cd.Zcm (W:=W) (by rw [HAB.out];exact hB);rw [HAB.out,Prod.mk.injEq] at hpq;obtain ⟨rfl,rfl⟩:=hpq;have dB:((q:Int) != -1)=true:=by simp
       have Hn:Hid (p ≠ q/\W p ≠ 0/\W q ≠ 0):=⟨hne,n1,n2⟩
       have hp':(p:Int)<16:=by omega
       have hq':(q:Int)<16:=by omega
       have hiT:=Zc T;clear hB hne n1 n2;go_wp2_with (refine wpList_load_row rfl 127 _ rfl g6 rfl 127 (arr T) (0,0) _ F3.r6.2 U127 rfl hiT ?_)
       rw [show min (p:Int) (q:Int)=((min p q:Nat):Int) by omega];have hm16:min p q<16:=by omega
       have hm':((min p q:Nat):Int)<16:=by omega
       have HrT:Hid (∀ i,Cd.rT T p q i=if T i=p\/T i=q then ((min p q:Nat):Int) else T i):=fun i=>rfl
       have HrW:Hid (upd (upd (upd W p 0) q 0) (min p q) (W p+W q)=Cd.rW W p q):=rfl;generalize min p q=m at *;go_loopw [44] (fun i wr=>∃ k:Nat,k<=16/\i=.int .i64 k/\Rows4 wr g2 g4 g5 g6 (fun i=>if i<k then Cd.rL T L p q i else L i) W (fun i=>if i<k then Cd.rT T p q i else T i)/\Below w.heap.size w wr) (fun i _=>16 - (intOf i).toNat)
       case atStart=>exact ⟨0,by omega,rfl,⟨F3.r2,F3.r4.congr (fun i _=>by simp),F3.r5,F3.r6.congr (fun i _=>by simp)⟩,B3'⟩
       case round =>
        clear F3 B3';obtain ⟨k,hk,rfl,F,B⟩:=hrel;by_cases hlt:k<16
        ·have hk1:decide ((k:Int)<16)=true:=by simp;omega
         have hk2:decide (k<16)=true:=by simp;omega
         have hix:=ZjP T k hlt;have hc6:=F.r6.cell k hlt;have hf6:=F.r6.frozen k;have F6:=F.set6 hq.out k m;have hc4:=F6.r4.cell k hlt;have hf4:=F6.r4.frozen k;have F4:=F6.set4 hq.out k (L k+1);have hLb:=H8.out.2.2.2.1 k;have hL1:0<=L k:=hLb.1;have hL2:L k<=16:=by omega
         simp only [Nat.lt_irrefl,if_false] at hc6 hc4
         have F4':T k=p\/T k=q->Rows4 ((wr.setCell ⟨g6,k,none⟩ (.int .i64 m)).setCell ⟨g4,k,none⟩ (.int .i64 (L k+1))) g2 g4 g5 g6 (fun i=>if i<k+1 then Cd.rL T L p q i else L i) W (fun i=>if i<k+1 then Cd.rT T p q i else T i):=fun h=>by
          refine ⟨F4.r2,F4.r4.congr (fun i hi=>?_),F4.r5,F4.r6.congr (fun i hi=>?_)⟩
          ·show upd _ k (L k+1) i=if i<k+1 then Cd.rL T L p q i else L i
           unfold upd;simp only;by_cases h9:i=k
           ·subst h9;rw [if_pos rfl,if_pos (by omega),Cd.rL,if_pos h]
           ·rw [if_neg h9];by_cases h8:i<k
            ·rw [if_pos h8,if_pos (by omega)]
            ·rw [if_neg h8,if_neg (by omega)]
          ·show upd _ k (m:Int) i=if i<k+1 then Cd.rT T p q i else T i
           unfold upd;simp only;by_cases h9:i=k
           ·subst h9;rw [if_pos rfl,if_pos (by omega),HrT.out,if_pos h]
           ·rw [if_neg h9];by_cases h8:i<k
            ·rw [if_pos h8,if_pos (by omega)]
            ·rw [if_neg h8,if_neg (by omega)]
         have F0:¬ (T k=p\/T k=q)->Rows4 wr g2 g4 g5 g6 (fun i=>if i<k+1 then Cd.rL T L p q i else L i) W (fun i=>if i<k+1 then Cd.rT T p q i else T i):=fun h=>by
          refine ⟨F.r2,F.r4.congr (fun i hi=>?_),F.r5,F.r6.congr (fun i hi=>?_)⟩
          ·show (if i<k then Cd.rL T L p q i else L i)=if i<k+1 then Cd.rL T L p q i else L i
           by_cases h9:i=k
           ·subst h9;rw [if_neg (Nat.lt_irrefl _),if_pos (by omega),Cd.rL,if_neg h]
           ·by_cases h8:i<k
            ·rw [if_pos h8,if_pos (by omega)]
            ·rw [if_neg h8,if_neg (by omega)]
          ·show (if i<k then Cd.rT T p q i else T i)=if i<k+1 then Cd.rT T p q i else T i
           by_cases h9:i=k
           ·subst h9;rw [if_neg (Nat.lt_irrefl _),if_pos (by omega),Cd.rT,if_neg h]
           ·by_cases h8:i<k
            ·rw [if_pos h8,if_pos (by omega)]
            ·rw [if_neg h8,if_neg (by omega)]
         have HF4:Hid (T k=p\/T k=q->Rows4 ((wr.setCell ⟨g6,k,none⟩ (.int .i64 m)).setCell ⟨g4,k,none⟩ (.int .i64 (L k+1))) g2 g4 g5 g6 (fun i=>if i<k+1 then Cd.rL T L p q i else L i) W (fun i=>if i<k+1 then Cd.rT T p q i else T i)):=F4';have HF0:Hid (¬ (T k=p\/T k=q)->Rows4 wr g2 g4 g5 g6 (fun i=>if i<k+1 then Cd.rL T L p q i else L i) W (fun i=>if i<k+1 then Cd.rT T p q i else T i)):=F0;have HBB:Hid (Below w.heap.size w ((wr.setCell ⟨g6,k,none⟩ (.int .i64 m)).setCell ⟨g4,k,none⟩ (.int .i64 (L k+1)))):=(B.setCell (by have:=hq.out;have:=hN'.out;show _<=g6;omega) _).setCell (by have:=hq.out;have:=hN'.out;show _<=g4;omega) _;clear F4 F4' F6 F0 F hLb;by_cases hx:T k=p
         ·have d1:(T k == (p:Int))=true:=by simpa using hx
          have HFF:=HF4.out (.inl hx);generalize T k=x at *;generalize L k=y at *;clear hx;go_wp2_with fail
          go_roundw
          case rel=>exact ⟨k+1,by omega,by go_num,HFF,HBB.out⟩
          case measure=>simp [intOf];omega
         ·have d1:(T k == (p:Int))=false:=by simpa using hx
          by_cases hy:T k=q
          ·have d2:(T k == (q:Int))=true:=by simpa using hy
           have HFF:=HF4.out (.inr hy);generalize T k=x at *;generalize L k=y at *;clear hx hy;go_wp2_with fail
           go_roundw
           case rel=>exact ⟨k+1,by omega,by go_num,HFF,HBB.out⟩
           case measure=>simp [intOf];omega
          ·have d2:(T k == (q:Int))=false:=by simpa using hy
           have HFF:=HF0.out (fun h=>h.elim hx hy);generalize T k=x at *;generalize L k=y at *;clear hx hy;go_wp2_with fail
           go_roundw
           case rel=>exact ⟨k+1,by omega,by go_num,HFF,B⟩
           case measure=>simp [intOf];omega
        ·obtain rfl:k=16:=by omega
         have F':Rows4 wr g2 g4 g5 g6 (Cd.rL T L p q) W (Cd.rT T p q):=⟨F.r2,F.r4.congr (fun i hi=>by rw [if_pos hi]),F.r5,F.r6.congr (fun i hi=>by rw [if_pos hi])⟩
         clear F;have hcp:=F'.r5.cell p hp;have hcq:=F'.r5.cell q hq1;have hsum:=Cd.Ztx H8.out.1 hp hq1 Hn.out.1;have h0p:=H8.out.1 p hp;have h0q:=H8.out.1 q hq1;have htt:=H8.out.2.1;have hs1:W p<=32768:=by omega
         have hs2:W q<=32768:=by omega
         clear hsum htt;go_wp2_with fail
         go_quiet (fail)
         have F7:=F'.below (below_drewN (bR wr.heap.size wr) nq);have B7:=below_drewN B nq;clear F' B hcp hcq;generalize wr.drewN nq=wq at *;have a1:=F7.r5.cell p hp;have a2:=F7.r5.frozen p;have Fa:=F7.set5 hq.out p 0;have a3:=Fa.r5.cell q hq1;have a4:=Fa.r5.frozen q;have Fb:=Fa.set5 hq.out q 0;have a5:=Fb.r5.cell m hm16;have a6:=Fb.r5.frozen m;have Fc:=Fb.set5 hq.out m (W p+W q);rw [HrW.out] at Fc;have hg5:w.heap.size<=g5:=by have:=hq.out;have:=hN'.out;omega
         have Bc:=((B7.setCell (p:=⟨g5,p,none⟩) hg5 (.int .i64 0)).setCell (p:=⟨g5,q,none⟩) hg5 (.int .i64 0)).setCell (p:=⟨g5,m,none⟩) hg5 (.int .i64 (W p+W q));clear F7 Fa Fb B7 hg5;have hlg:=fun w=>ZdG (Cd.rW W p q) w
         obtain ⟨A2,B2,hAB2⟩:∃ A B,Cd.lt2 (Cd.rW W p q) 16=(A,B):=⟨_,_,rfl⟩
         rw [hAB2] at hlg;have HAB2:Hid (Cd.lt2 (Cd.rW W p q) 16=(A2,B2)):=hAB2;have hiW:=Zc (Cd.rW W p q)
         obtain ⟨n,hn,hnew⟩:∃ n,gk=n+1/\Hid ((∀ i,i<16->0<=Cd.rW W p q i)/\Cd.tot (Cd.rW W p q) 16<=32768/\Cd.cnt (Cd.rW W p q) 16<=n/\(∀ i,0<=Cd.rL T L p q i/\Cd.rL T L p q i+(n:Nat)<=16)/\Cd.bldR n (Cd.rW W p q) (Cd.rT T p q) (Cd.rL T L p q)=r1):=by
          obtain ⟨e1,e2,e3,e4,e5⟩:=H8.out;obtain ⟨x1,x2,x3⟩:=Cd.Zku e1 hp hq1 Hn.out.1 Hn.out.2.1 Hn.out.2.2;have hgk:gk=(gk - 1)+1:=by omega
          refine ⟨gk - 1,hgk,Cd.Zjv e1 hp hq1,by omega,by omega,Cd.rL_b (fun i=>by have:=e4 i;rw [<-hgk];exact this),?_⟩;rw [hgk,Cd.ZeL HAB.out] at e5;exact e5
         clear hAB2;have Hn1:Hid (gk=n+1):=hn;clear hn;generalize W p+W q=z at *;go_wp2_with (refine wpList_load_row rfl 127 _ rfl g5 rfl 127 (arr (Cd.rW W p q)) (0,0) _ Fc.r5.2 U127 rfl hiW ?_)
         refine (hlg _).mono ?_;rintro e w5 ⟨rfl,G5⟩;have Fd:=Fc.below G5;have Bd:=bch Bc G5 (nl _);clear Fc Bc G5 hlg a1 a2 a3 a4 a5 a6;go_wp2_with fail
         go_roundg n
         case measure=>have:=Hn1.out;omega
         case rel=>exact ⟨Cd.rW W p q,Cd.rT T p q,Cd.rL T L p q,A2,B2,rfl,rfl,HAB2,Fd,Bd,hnew⟩
theorem Zgc (c:Nat->Int) (w:World) :
 Calls Tryz.prog 160 #[.agg (arr c)] w fun e w'=>e=.returned (.tuple #[.agg (arr (Cd.bld c).1),.int .i64 (Cd.bld c).2])/\Below w.heap.size w w':=by
 by_cases h:Cd.InR c 2048 16
 ·exact Zqk c w h
 ·have h9:Cd.bld c=(fun _=>0,3):=by rw [Cd.bld,if_pos h]
  rw [h9];exact Zit c w h
namespace Cd
def wI (f:Nat->Int) (n:Int) (x:Int × (Nat->Int)):Nat->Int × (Nat->Int)
 | 0=>x
 | k+1=>if f k=n then ((wI f n x k).1+1,upd (wI f n x k).2 k (wI f n x k).1) else wI f n x k
def wO (f:Nat->Int):Nat->Int × (Nat->Int)
 | 0=>(0,fun _=>0)
 | n+1=>wI f (n+1:Nat) ((wO f n).1*2,(wO f n).2) 16
def wds (f:Nat->Int):Nat->Int:=(wO f 15).2
theorem wI_b (f:Nat->Int) (n:Int) (x:Int × (Nat->Int)):∀ k,x.1<=(wI f n x k).1/\(wI f n x k).1<=x.1+k:=by
 intro k
 induction k with
 | zero=>simp [wI]
 | succ k ih =>
  rw [wI];split
  ·simp only;omega
  ·omega
theorem wO_b (f:Nat->Int):∀ n,0<=(wO f n).1/\(wO f n).1<=16*(2 ^ n - 1):=by
 intro n
 induction n with
 | zero=>simp [wO]
 | succ n ih =>
  have:=wI_b f (n+1:Nat) ((wO f n).1*2,(wO f n).2) 16;simp only at this;rw [wO,Int.pow_succ];omega
theorem wO_c (f:Nat->Int) {n:Nat} (h:n<=15):0<=(wO f n).1/\(wO f n).1<=524288:=by
 have h1:=wO_b f n;have h2:(2:Int) ^ n<=2 ^ 15:=ZbE h;omega
end Cd
theorem ZcQ (f:Nat->Int) (w:World) :
 Calls Tryz.prog 182 #[.agg (arr f)] w fun e w'=>e=.returned (.agg (arr (Cd.wds f)))/\Below w.heap.size w w':=by
 obtain ⟨R1,R2,R3,HB⟩:=Zop w f (fun _=>0);rw [<-Zm] at R1 R2 R3 HB;go_enter Tryz.func182,Tryz.ntmps182
 go_wp2_with fail
 rw [Zm] at R1 R2 R3 HB;rw [Zm];generalize ((w.alloc (.cells (arr f) 127)).alloc (.cells (arr fun _=>0) 127)).alloc (.cells (arr fun _=>0) 127)=w0 at *;have hq:Hid (w.heap.size<w.heap.size+1/\w.heap.size+1<w.heap.size+1+1/\w.heap.size<=w.heap.size):=by show _/\_/\_;omega
 obtain ⟨g1,hg1⟩:∃ g1,g1=w.heap.size:=⟨_,rfl⟩
 have hq1:Hid (g1<w.heap.size+1/\w.heap.size+1<w.heap.size+1+1/\w.heap.size<=g1):=by show _/\_/\_;omega
 generalize w.heap.size+1+1=g3 at *;generalize w.heap.size+1=g2 at *;clear hq hg1;go_loopw [4,5] (fun x i wr=>∃ (n:Nat) (N1:Int),n<=15/\i=.int .i64 N1/\Hid (N1=(n+1:Nat))/\x=.int .i64 (Cd.wO f n).1/\RowAt wr w.heap.size f/\RowAt wr g2 (fun _=>0)/\RowAt wr g3 (Cd.wO f n).2/\Below w.heap.size w wr) (fun _ i _=>20 - (intOf i).toNat)
 case atStart=>exact ⟨0,1,by omega,rfl,rfl,rfl,R1,R2,R3,HB⟩
 case round =>
  clear R1 R2 R3 HB;obtain ⟨n,N1,hn,rfl,HN1,rfl,R1,R2,R3,HB⟩:=hrel;have hb:=Cd.wO_c f hn;have hNb:1<=N1/\N1<=16:=by have:=HN1.out;omega
  by_cases hlt:n<15
  ·have hk1:decide (N1<=15)=true:=by have:=HN1.out;simp;omega
   have HE:Hid (Cd.wO f (n+1)=Cd.wI f N1 ((Cd.wO f n).1*2,(Cd.wO f n).2) 16):=by show _=_;rw [HN1.out];rfl
   have HNn:Hid (N1+1=(n+1+1:Nat)):=by have:=HN1.out;show _=_;omega
   generalize Cd.wO f n=V at *;obtain ⟨X,V⟩:=V;simp only at hb R3 HE;clear hn;go_wp2_with fail
   go_loopw [4,13] (fun x i wr=>∃ k:Nat,k<=16/\i=.int .i64 k/\x=.int .i64 (Cd.wI f N1 (X*2,V) k).1/\RowAt wr w.heap.size f/\RowAt wr g2 (fun _=>0)/\RowAt wr g3 (Cd.wI f N1 (X*2,V) k).2/\Below w.heap.size w wr) (fun _ i _=>16 - (intOf i).toNat)
   case atStart=>exact ⟨0,by omega,rfl,rfl,R1,R2,R3,HB⟩
   case round =>
    clear R1 R2 R3 HB;obtain ⟨k,hk,rfl,rfl,R1,R2,R3,HB⟩:=hrel;by_cases hlt2:k<16
    ·have hk2:decide ((k:Int)<16)=true:=by simp;omega
     have hk3:decide (k<16)=true:=by simp;omega
     have hc1:=R1.cell k hlt2;have hc3:=R3.cell k hlt2;have hf3:=R3.frozen k;have hbb:=Cd.wI_b f N1 (X*2,V) k;have hy0:0<=(Cd.wI f N1 (X*2,V) k).1:=by simp only at hbb;omega
     have hy1:(Cd.wI f N1 (X*2,V) k).1<=1048592:=by simp only at hbb;omega
     have R3':=R3.set k (Cd.wI f N1 (X*2,V) k).1;have R1':=R1.setFar (q:=g3) (by have:=hq1.out;omega) k (.int .i64 (Cd.wI f N1 (X*2,V) k).1);have R2':=R2.setFar (q:=g3) (by have:=hq1.out;omega) k (.int .i64 (Cd.wI f N1 (X*2,V) k).1);have HB':=HB.setCell (p:=⟨g3,k,none⟩) (by have:=hq1.out;show _<=g3;omega) (.int .i64 (Cd.wI f N1 (X*2,V) k).1);by_cases hx:f k=N1
     ·have d1:(f k == N1)=true:=by simpa using hx
      have HW:Hid (Cd.wI f N1 (X*2,V) (k+1)=((Cd.wI f N1 (X*2,V) k).1+1,upd (Cd.wI f N1 (X*2,V) k).2 k (Cd.wI f N1 (X*2,V) k).1)):=by show _=_;rw [Cd.wI,if_pos hx]
      generalize Cd.wI f N1 (X*2,V) k=U at *;generalize f k=z at *;clear hx hbb R1 R2 R3 HB hb;go_wp2_with fail
      go_roundw
      case rel=>exact ⟨k+1,by omega,by go_num,by rw [HW.out],R1',R2',by rw [HW.out];exact R3',HB'⟩
      case measure=>simp [intOf];omega
     ·have d1:(f k == N1)=false:=by simpa using hx
      have HW:Hid (Cd.wI f N1 (X*2,V) (k+1)=Cd.wI f N1 (X*2,V) k):=by show _=_;rw [Cd.wI,if_neg hx]
      generalize Cd.wI f N1 (X*2,V) k=U at *;generalize f k=z at *;clear hx hbb R1' R2' R3' HB' hb;go_wp2_with fail
      go_roundw
      case rel=>exact ⟨k+1,by omega,by go_num,by rw [HW.out],R1,R2,by rw [HW.out];exact R3,HB⟩
      case measure=>simp [intOf];omega
    ·obtain rfl:k=16:=by omega
     rw [<-HE.out] at R3;rw [<-HE.out];go_wp2_with fail
     go_roundw
     case rel=>exact ⟨n+1,N1+1,by omega,by go_num,HNn,rfl,R1,R2,R3,HB⟩
     case measure=>simp [intOf];omega
  ·obtain rfl:n=15:=by omega
   obtain rfl:N1=16:=by have:=HN1.out;omega
   have R3':RowAt wr g3 (Cd.wds f):=R3;have hi1:=Zc (Cd.wds f);clear R3;go_wp2_with (first | refine wpList_load_row rfl 127 _ rfl g3 rfl 127 (arr (Cd.wds f)) (0,0) _ R3'.2 U127 rfl hi1 ?_ | refine wpList_store_row rfl 127 _ _ rfl g2 (arr (Cd.wds f)) rfl rfl 127 _ R2.2 hi1 (by rw [Zi,Zi]) (ZW _) ?_)
   have U2:=R2.setRow (Cd.wds f);exact bodyPost_ret (v:=.agg (arr (Cd.wds f))) (results_cell_row Tryz.results182 _ _ g2 127 _ (0,0) _ rfl U2.2 U127 rfl hi1) rfl ⟨rfl,Zq HB (by have:=hq1.out;omega) _⟩
namespace Cd
def wb (word:Int):Nat->List Bool
 | 0=>[]
 | k+1=>decide (word / 2 ^ k % 2=1) :: wb word k
theorem ZdB (word:Int):∀ k,(wb word k).length=k:=by
 intro k
 induction k with
 | zero=>rfl
 | succ k ih=>simp [wb,ih]
def bv (b:Bool):Nat:=if b then 1 else 0
theorem Ztc (b:Bool):bv b<=1:=by cases b <;> decide
def bq (bs:List Bool) (i:Nat):Nat:=bv (bs.getD i false)
theorem ZaI (bs:List Bool) (i:Nat):bq bs i<=1:=Ztc _
theorem ZcD (bs:List Bool) (b:Bool) {i:Nat} (h:i<bs.length):bq (bs++[b]) i=bq bs i:=by
 simp [bq,List.getD_eq_getElem?_getD,List.getElem?_append_left h]
theorem Zua (bs:List Bool) (b:Bool):bq (bs++[b]) bs.length=bv b:=by
 simp [bq,List.getD_eq_getElem?_getD]
theorem Zba (bs:List Bool) {i:Nat} (h:bs.length<=i):bq bs i=0:=by
 simp [bq,List.getD_eq_getElem?_getD,List.getElem?_eq_none h,bv]
def byt (bs:List Bool) (j:Nat):Nat:=bq bs (8*j)*128+bq bs (8*j+1)*64+bq bs (8*j+2)*32+bq bs (8*j+3)*16+bq bs (8*j+4)*8+bq bs (8*j+5)*4+bq bs (8*j+6)*2+bq bs (8*j+7)
theorem Zrt (bs:List Bool) (j:Nat):byt bs j<256:=by
 have h0:=ZaI bs (8*j);have h1:=ZaI bs (8*j+1);have h2:=ZaI bs (8*j+2);have h3:=ZaI bs (8*j+3);have h4:=ZaI bs (8*j+4);have h5:=ZaI bs (8*j+5);have h6:=ZaI bs (8*j+6);have h7:=ZaI bs (8*j+7);unfold byt;omega
theorem ZtF (bs:List Bool) {j:Nat} (h:bs.length<=8*j):byt bs j=0:=by
 unfold byt;rw [Zba bs (by omega),Zba bs (by omega),Zba bs (by omega),Zba bs (by omega),Zba bs (by omega),Zba bs (by omega),Zba bs (by omega),Zba bs (by omega)]
theorem ZsE (bs:List Bool) (b:Bool) {j:Nat} (h:8*j+7<bs.length):byt (bs++[b]) j=byt bs j:=by
 unfold byt;rw [ZcD bs b (by omega),ZcD bs b (by omega),ZcD bs b (by omega),ZcD bs b (by omega),ZcD bs b (by omega),ZcD bs b (by omega),ZcD bs b (by omega),ZcD bs b (by omega)]
theorem ZtW (bs:List Bool) (b:Bool) (i:Nat):bq (bs++[b]) i=bq bs i+(if i=bs.length then bv b else 0):=by
 by_cases h:i<bs.length
 ·rw [ZcD bs b h,if_neg (by omega)];omega
 ·by_cases h1:i=bs.length
  ·subst h1;rw [Zua,if_pos rfl,Zba bs (Nat.le_refl _)];omega
  ·rw [if_neg h1,Zba (bs++[b]) (by simp;omega),Zba bs (by omega)]
theorem Ziv (bs:List Bool) (b:Bool) (j r:Nat) (hr:r<8) (hn:bs.length=8*j+r):byt (bs++[b]) j=byt bs j+bv b*2 ^ (7 - r)/\byt bs j % 2 ^ (8 - r)=0:=by
 have hb:=Ztc b;unfold byt;simp only [ZtW];rw [hn];obtain rfl | rfl | rfl | rfl | rfl | rfl | rfl | rfl:r=0\/r=1\/r=2\/r=3\/r=4\/r=5\/r=6\/r=7:=by omega
 all_goals
  have f0:=ZaI bs (8*j);have f1:=ZaI bs (8*j+1);have f2:=ZaI bs (8*j+2);have f3:=ZaI bs (8*j+3);have f4:=ZaI bs (8*j+4);have f5:=ZaI bs (8*j+5);have f6:=ZaI bs (8*j+6);have z:∀ i,bs.length<=i->bq bs i=0:=fun i h=>Zba bs h
  have z0:=z (8*j);have z1:=z (8*j+1);have z2:=z (8*j+2);have z3:=z (8*j+3);have z4:=z (8*j+4);have z5:=z (8*j+5);have z6:=z (8*j+6);have z7:=z (8*j+7);constructor
  ·repeat (first | rw [if_pos (by omega)] | rw [if_neg (by omega)])
   omega
  ·omega
def pk (bs:List Bool):List UInt8:=(List.range ((bs.length+7) / 8)).map fun j=>UInt8.ofNat (byt bs j)
theorem ZbY (bs:List Bool):(pk bs).length=(bs.length+7) / 8:=by simp [pk]
theorem ZkK (bs:List Bool) {j:Nat} (h:j<(bs.length+7) / 8):(pk bs)[j]?=some (UInt8.ofNat (byt bs j)):=by simp [pk,h]
def pk1 (bs:List Bool):List UInt8:=if bs.length % 8=0 then pk bs++[0] else pk bs
theorem ZiA (bs:List Bool):(pk1 bs).length=bs.length / 8+1:=by
 unfold pk1;split
 ·rw [List.length_append,ZbY];simp;omega
 ·rw [ZbY];omega
theorem ZrI (bs:List Bool) {j:Nat} (h:j<bs.length / 8+1):(pk1 bs)[j]?=some (UInt8.ofNat (byt bs j)):=by
 unfold pk1;split
 ·rename_i h0
  by_cases hj:j<bs.length / 8
  ·rw [List.getElem?_append_left (by rw [ZbY];omega),ZkK bs (by omega)]
  ·rw [List.getElem?_append_right (by rw [ZbY];omega),ZbY,ZtF bs (by omega),show j - (bs.length+7) / 8=0 by omega];rfl
 ·rw [ZkK bs (by omega)]
theorem Zte (bs:List Bool) (b:Bool):pk (bs++[b])=(pk1 bs).set (bs.length / 8) (UInt8.ofNat (byt bs (bs.length / 8)+bv b*2 ^ (7 - bs.length % 8))):=by
 have hn:bs.length=8*(bs.length / 8)+bs.length % 8:=by omega
 have hb:=Ziv bs b (bs.length / 8) (bs.length % 8) (by omega) hn;apply List.ext_getElem?;intro i;have hl:((bs++[b]).length+7) / 8=bs.length / 8+1:=by simp;omega
 by_cases hi:i<bs.length / 8+1
 ·rw [ZkK _ (by omega),List.getElem?_set];by_cases h1:bs.length / 8=i
  ·rw [if_pos h1,if_pos (by rw [ZiA];omega),<-h1,hb.1]
  ·rw [if_neg h1,ZrI bs hi,ZsE bs b (by omega)]
 ·rw [List.getElem?_eq_none (by rw [ZbY];omega),List.getElem?_eq_none (by rw [List.length_set,ZiA];omega)]
end Cd
theorem Zqq {word:Int} {K:Int} {k:Nat} (h0:0<=word) (h1:word<=1048576) (hK:K=k):bits BinOp.and IntKind.i64 (word / 2 ^ K.toNat) 1 % 256=(Cd.bv (decide (word / 2 ^ k % 2=1)):Nat):=by
 subst hK;rw [Int.toNat_natCast];have hp:=Cd.pow_pos k;have h2:0<=word / 2 ^ k:=Int.ediv_nonneg h0 (by omega);have h3:word / 2 ^ k<=word:=Int.ediv_le_self _ h0;have h:=bits_mask .i64 63 (by decide) (fun n a b=>by rw [IntKind.wrap_i64];omega) 1 (by decide) (word / 2 ^ k) h2 (by omega);have e:((2:Int) ^ 1 - 1)=1:=by decide
 have e2:((2:Int) ^ 1)=2:=by decide
 rw [e,e2] at h;rw [h];generalize word / 2 ^ k=x at *;by_cases hx:x % 2=1
 ·simp [hx,Cd.bv]
 ·have:x % 2=0:=by omega
  simp [this,Cd.bv]
theorem Zmu {x r:Nat} {b:Bool} (hr:r<8) (hx:x<256) (hm:x % 2 ^ (8 - r)=0):bits BinOp.or IntKind.u8 (x:Int) ((Cd.bv b:Nat)*2 ^ (7 - r) % 256)=((x+Cd.bv b*2 ^ (7 - r):Nat):Int)/\x+Cd.bv b*2 ^ (7 - r)<256:=by
 have hb:=Cd.Ztc b
 have hlt:Cd.bv b*2 ^ (7 - r)<2 ^ (8 - r):=by
  have h1:2 ^ (8 - r)=2*2 ^ (7 - r):=by rw [show 8 - r=(7 - r)+1 by omega,Nat.pow_succ];omega
  have h2:0<2 ^ (7 - r):=Nat.pow_pos (by omega);rcases Nat.le_one_iff_eq_zero_or_eq_one.1 hb with h | h <;> rw [h] <;> omega
 have hle:2 ^ (8 - r)<=2 ^ 8:=Nat.pow_le_pow_right (by omega) (by omega)
 have hsum:x+Cd.bv b*2 ^ (7 - r)<256:=by
  have hd:2 ^ (8 - r) ∣ 256:=by
   refine ⟨2 ^ r,?_⟩;rw [<-Nat.pow_add,show 8 - r+r=8 by omega]
  obtain ⟨q,hq⟩:=hd;have hxq:x=2 ^ (8 - r)*(x / 2 ^ (8 - r)):=by have:=Nat.div_add_mod x (2 ^ (8 - r));omega
  have hlt2:x / 2 ^ (8 - r)<q:=by
   apply Nat.lt_of_mul_lt_mul_left (a:=2 ^ (8 - r));omega
  have:2 ^ (8 - r)*(x / 2 ^ (8 - r)+1)<=2 ^ (8 - r)*q:=Nat.mul_le_mul_left _ hlt2;rw [Nat.mul_add,Nat.mul_one] at this;omega
 refine ⟨?_,hsum⟩
 have e:((Cd.bv b:Nat):Int)*2 ^ (7 - r) % 256=((Cd.bv b*2 ^ (7 - r):Nat):Int):=by
  have:((Cd.bv b:Nat):Int)*2 ^ (7 - r)=((Cd.bv b*2 ^ (7 - r):Nat):Int):=by push_cast;rfl
  rw [this];have:2 ^ (8 - r)<=256:=hle;omega
 rw [e];have h:=(bits_nat .u8 8 (by decide) wraps_u8 x (Cd.bv b*2 ^ (7 - r)) (by omega) (by omega)).2;rw [h];have hxq:x=2 ^ (8 - r)*(x / 2 ^ (8 - r)):=by have:=Nat.div_add_mod x (2 ^ (8 - r));omega
 have h2:=Nat.two_pow_add_eq_or_of_lt hlt (x / 2 ^ (8 - r));rw [<-hxq] at h2;rw [<-h2]
theorem ZjU {w:World} {B:Nat} {v:Value} {l:List UInt8} (h:w.ownsRow B 5 1 v l.length (bcs l)) (hl:l ≠ []):∃ g cap,v=.slice (some ⟨g,0,none⟩) l.length cap/\B<=g/\g<w.heap.size ∧
 (∀ j b,l[j]?=some b->w.cell? ⟨g,j,none⟩=some (.int .u8 (b.toNat:Int)))/\(∀ j,w.frozen? ⟨g,j,none⟩=false) ∧
 (∀ j b,j<l.length->(w.setCell ⟨g,j,none⟩ (.int .u8 (UInt8.toNat b:Int))).ownsRow B 5 1 v (l.set j b).length (bcs (l.set j b))):=by
 have hlen:=h.1;rcases h.2 with ⟨_,h0⟩ | ⟨g,cap,cur,rfl,hb,hg,hnc,hcm,hcs,htk⟩
 ·exact absurd (List.eq_nil_of_length_eq_zero h0) hl
 ·rw [Nat.mul_one] at htk hcs;refine ⟨g,cap,rfl,hb,(aG.1 hg).1,?_,fun j=>by simp [World.frozen?,hg],?_⟩
  ·intro j b hj;have hj2:j<l.length:=(List.getElem?_eq_some_iff.1 hj).1;rw [cell_of_row w g j cur _ _ hg]
   have:(cur.toList.take l.length)[j]?=some (.int .u8 (b.toNat:Int)):=by
    rw [htk];simp [bcs,hj]
   rw [List.getElem?_take,if_pos hj2] at this;simpa using this
  ·intro j b hj
   have hg2:(w.setCell ⟨g,j,none⟩ (.int .u8 (b.toNat:Int))).heap[g]?=some (.cells (cur.setIfInBounds j (.int .u8 (b.toNat:Int))) 5 (0,0)):=by
    show (w.heap.modify g _)[g]?=_;rw [Array.getElem?_modify,if_pos rfl,hg];rfl
   refine ⟨by rw [Zae];omega,.inr ⟨g,cap,_,by rw [List.length_set],hb,hg2,by rw [List.length_set];exact hnc,hcm,by simp;omega,?_⟩⟩;rw [List.length_set,Nat.mul_one,Array.toList_setIfInBounds,List.take_set,htk];simp [bcs]
def BitsAt (w:World) (gb:Nat) (bs:List Bool):Prop:=gb<w.heap.size/\∃ v,w.heap[gb]?=some (.cells #[v,.int .i64 (bs.length:Nat)] 200 (0,0))/\w.ownsRow (gb+1) 5 1 v (Cd.pk bs).length (bcs (Cd.pk bs))
end Go.Proofs.YtbjbjbpgmojcbabGreat
namespace Go.Proofs.YtbjbjbpgmojcbabGreat.Tk
def alk (l:List UInt8):Nat->Nat->Nat->Nat
 | _,_,0=>0
 | a,b,m+1=>if l[a]?=l[b]? then alk l (a+1) (b+1) m+1 else 0
theorem ZjE (l:List UInt8):∀ (m a b:Nat),alk l a b m<=m:=by
 intro m
 induction m with
 | zero=>intro a b;simp [alk]
 | succ m ih =>
  intro a b;rw [alk];split
  ·have:=ih (a+1) (b+1);omega
  ·omega
theorem Zhv (l:List UInt8):∀ (m a b n:Nat),n<=m->(∀ j,j<n->l[a+j]?=l[b+j]?)->(n=m\/l[a+n]? ≠ l[b+n]?)->alk l a b m=n:=by
 intro m
 induction m with
 | zero=>intro a b n h1 _ _;simp [alk];omega
 | succ m ih =>
  intro a b n h1 h2 h3;rw [alk]
  cases n with
  | zero =>
   rcases h3 with h | h
   ·omega
   ·rw [if_neg (by simpa using h)]
  | succ n =>
   have h0:=h2 0 (by omega);rw [if_pos (by simpa using h0),ih (a+1) (b+1) n (by omega)]
   ·intro j hj;have:=h2 (j+1) (by omega)
    rwa [show a+(j+1)=a+1+j by omega,show b+(j+1)=b+1+j by omega] at this
   ·rcases h3 with h | h
    ·left;omega
    ·right
     rwa [show a+(n+1)=a+1+n by omega,show b+(n+1)=b+1+n by omega] at h
theorem ZjK (l:List UInt8):∀ (m a b j:Nat),j<alk l a b m->l[a+j]?=l[b+j]?:=by
 intro m
 induction m with
 | zero=>intro a b j h;simp [alk] at h
 | succ m ih =>
  intro a b j h;rw [alk] at h;split at h
  ·rename_i he
   cases j with
   | zero=>simpa using he
   | succ j =>
    have:=ih (a+1) (b+1) j (by omega)
    rwa [show a+(j+1)=a+1+j by omega,show b+(j+1)=b+1+j by omega]
  ·omega
end Go.Proofs.YtbjbjbpgmojcbabGreat.Tk
namespace Go.Proofs.YtbjbjbpgmojcbabGreat.Tk
def win (l:List UInt8) (i:Nat):List UInt8:=(l.drop i).take 3
def plc (l k:List UInt8) (r:Nat):List Nat:=(List.range r).filter (fun p=>win l p == k)
theorem ZqB (l k:List UInt8) (r:Nat):plc l k (r+1)=plc l k r++(if win l r=k then [r] else []):=by
 unfold plc;rw [List.range_succ,List.filter_append]
 congr 1
 by_cases h:win l r=k
 ·simp [h]
 ·simp [h]
theorem ZuG {l k:List UInt8} {r p:Nat} (h:p ∈ plc l k r):p<r:=by
 unfold plc at h;exact List.mem_range.1 (List.mem_filter.1 h).1
theorem Ztq (l k:List UInt8) (r:Nat):(plc l k r).length<=r:=by
 unfold plc;exact nt (List.length_filter_le _ _) (by simp)
def stp (l:List UInt8) (a m:Nat) (b:Nat × Nat) (p:Nat):Nat × Nat:=if b.2<alk l p a m then (a - p,alk l p a m) else b
theorem ZpU {l:List UInt8} {a m:Nat} {b:Nat × Nat} (h:m<=b.2) (p:Nat):stp l a m b p=b:=by
 unfold stp;have:=ZjE l m p a;rw [if_neg (by omega)]
theorem Znx {l:List UInt8} {a m:Nat} {b:Nat × Nat} (h:m<=b.2):∀ L:List Nat,L.foldl (stp l a m) b=b:=by
 intro L
 induction L with
 | nil=>rfl
 | cons p L ih=>rw [List.foldl_cons,ZpU h,ih]
theorem Zuw (l:List UInt8):∀ (m a b n:Nat),n<=m->(∀ j,j<n->l[a+j]?=l[b+j]?)->n<=alk l a b m:=by
 intro m
 induction m with
 | zero=>intro a b n h _;omega
 | succ m ih =>
  intro a b n h hj
  cases n with
  | zero=>omega
  | succ n =>
   rw [alk,if_pos (by simpa using hj 0 (by omega))]
   have:=ih (a+1) (b+1) n (by omega) (fun j h2=>by
    have:=hj (j+1) (by omega)
    rwa [show a+(j+1)=a+1+j by omega,show b+(j+1)=b+1+j by omega] at this)
   omega
theorem ZkB (l:List UInt8) (i j:Nat):(win l i)[j]?=if j<3 then l[i+j]? else none:=by
 unfold win;rw [List.getElem?_take];split
 ·rw [List.getElem?_drop]
 ·rfl
theorem Zmp {l:List UInt8} {p a m:Nat} (hm:3<=m):win l p=win l a ↔ 3<=alk l p a m:=by
 constructor
 ·intro h;refine Zuw l m p a 3 hm (fun j hj=>?_);have h1:=ZkB l p j;have h2:=ZkB l a j;rw [if_pos hj] at h1 h2;rw [<-h1,<-h2,h]
 ·intro h;apply List.ext_getElem?;intro j;rw [ZkB,ZkB];split
  ·exact ZjK l m p a j (by omega)
  ·rfl
theorem Ziq (l:List UInt8) (a m:Nat) (hm:3<=m):∀ (L:List Nat) (b b':Nat × Nat),((b.2<3/\b'=(0,0))\/(3<=b.2/\b'=b)) →
 (((L.foldl (stp l a m) b).2<3/\(L.filter (fun p=>win l p == win l a)).foldl (stp l a m) b'=(0,0))\/(3<=(L.foldl (stp l a m) b).2/\(L.filter (fun p=>win l p == win l a)).foldl (stp l a m) b'=L.foldl (stp l a m) b)):=by
 intro L
 induction L with
 | nil=>intro b b' h;simpa using h
 | cons p L ih =>
  intro b b' h;rw [List.foldl_cons,List.filter_cons];by_cases hw:win l p=win l a
  ·have hk:=(Zmp (l:=l) (p:=p) (a:=a) hm).1 hw;rw [if_pos (by simpa using hw),List.foldl_cons];apply ih;rcases h with ⟨h1,rfl⟩ | ⟨h1,rfl⟩
   ·right
    unfold stp;rw [if_pos (by omega),if_pos (by simp;omega)];exact ⟨hk,rfl⟩
   ·right
    refine ⟨?_,rfl⟩;unfold stp;split
    ·exact hk
    ·exact h1
  ·have hk:¬ 3<=alk l p a m:=fun e=>hw ((Zmp hm).2 e)
   rw [if_neg (by simpa using hw)];apply ih;rcases h with ⟨h1,rfl⟩ | ⟨h1,rfl⟩
   ·left
    refine ⟨?_,rfl⟩;unfold stp;split
    ·show alk l p a m<3;omega
    ·exact h1
   ·right
    unfold stp;rw [if_neg (by omega)];exact ⟨h1,rfl⟩
def most (l:List UInt8) (a:Nat):Nat:=min 64 (l.length - a)
def bst (l:List UInt8) (a:Nat):Nat × Nat:=(List.range a).reverse.foldl (stp l a (most l a)) (0,0)
def lng (l:List UInt8) (a:Nat):Nat × Nat:=if most l a<3 then (0,0) else (plc l (win l a) a).reverse.foldl (stp l a (most l a)) (0,0)
theorem Zsv (l:List UInt8) (a m:Nat):∀ (L:List Nat) (b:Nat × Nat),(∀ p ∈ L,p<a)->b.2<=m->(b=(0,0)\/(1<=b.1/\b.1<=a/\1<=b.2/\b.2=alk l (a - b.1) a m)) →
 (L.foldl (stp l a m) b).2<=m/\(L.foldl (stp l a m) b=(0,0)\/(1<=(L.foldl (stp l a m) b).1/\(L.foldl (stp l a m) b).1<=a/\1<=(L.foldl (stp l a m) b).2/\(L.foldl (stp l a m) b).2=alk l (a - (L.foldl (stp l a m) b).1) a m)):=by
 intro L
 induction L with
 | nil=>intro b _ h1 h2;exact ⟨h1,h2⟩
 | cons p L ih =>
  intro b hL h1 h2;have hp:=hL p (by simp);rw [List.foldl_cons];apply ih _ (fun q hq=>hL q (by simp [hq]))
  ·unfold stp;split
   ·exact ZjE l m p a
   ·exact h1
  ·unfold stp;split
   ·right
    rename_i h
    refine ⟨by simp;omega,by simp,by simp;omega,?_⟩;show alk l p a m=alk l (a - (a - p)) a m;rw [show a - (a - p)=p by omega]
   ·exact h2
theorem ZjT (l:List UInt8) (a:Nat):(bst l a).2<=most l a/\(bst l a=(0,0)\/(1<=(bst l a).1/\(bst l a).1<=a/\1<=(bst l a).2/\(bst l a).2=alk l (a - (bst l a).1) a (most l a))):=by
 unfold bst;exact Zsv l a _ _ _ (fun p hp=>by simpa using hp) (by simp) (Or.inl rfl)
theorem ZsV (l:List UInt8) (a:Nat):((bst l a).2<3/\lng l a=(0,0))\/(3<=(bst l a).2/\lng l a=bst l a):=by
 have hb:=(ZjT l a).1;unfold lng;by_cases h:most l a<3
 ·rw [if_pos h]
  left
  exact ⟨by omega,rfl⟩
 ·rw [if_neg h];unfold plc bst;rw [<-List.filter_reverse];exact Ziq l a _ (by omega) _ _ _ (Or.inl ⟨by simp,rfl⟩)
def lay (s:ByteArray) (f a:Nat):List T:=if f<a then [⟨s.extract f a,0,0⟩] else []
def prs (s:ByteArray):Nat->Nat->Nat->List T
 | 0,a,f=>lay s f a
 | n+1,a,f=>if a<s.size then (if (bst s.data.toList a).2<3 then prs s n (a+1) f else lay s f a++⟨⟨#[]⟩,((bst s.data.toList a).1:Nat),((bst s.data.toList a).2:Nat)⟩ :: prs s n (a+(bst s.data.toList a).2) (a+(bst s.data.toList a).2)) else lay s f a
theorem ZpY (s:ByteArray):∀ (n k a f:Nat),s.size - a<=n->s.size - a<=k->prs s n a f=prs s k a f:=by
 intro n
 induction n with
 | zero =>
  intro k a f h _
  cases k with
  | zero=>rfl
  | succ k=>rw [prs,prs,if_neg (by omega)]
 | succ n ih =>
  intro k a f h1 h2
  cases k with
  | zero=>rw [prs,prs,if_neg (by omega)]
  | succ k =>
   rw [prs,prs];by_cases ha:a<s.size
   ·rw [if_pos ha,if_pos ha];by_cases hb:(bst s.data.toList a).2<3
    ·rw [if_pos hb,if_pos hb,ih k (a+1) f (by omega) (by omega)]
    ·rw [if_neg hb,if_neg hb,ih k _ _ (by omega) (by omega)]
   ·rw [if_neg ha,if_neg ha]
def P (s:ByteArray) (a f:Nat):List T:=prs s (s.size - a) a f
theorem ZsH {s:ByteArray} {a f:Nat} (h:s.size<=a):P s a f=lay s f a:=by
 unfold P;rw [show s.size - a=0 by omega,prs]
theorem ZrP {s:ByteArray} {a f:Nat} (h:a<s.size) (hb:(bst s.data.toList a).2<3):P s a f=P s (a+1) f:=by
 unfold P;rw [show s.size - a=(s.size - (a+1))+1 by omega,prs,if_pos h,if_pos hb]
theorem Znt {s:ByteArray} {a f:Nat} (h:a<s.size) (hb:¬ (bst s.data.toList a).2<3):P s a f=lay s f a++⟨⟨#[]⟩,((bst s.data.toList a).1:Nat),((bst s.data.toList a).2:Nat)⟩ :: P s (a+(bst s.data.toList a).2) (a+(bst s.data.toList a).2):=by
 unfold P;rw [show s.size - a=(s.size - (a+1))+1 by omega,prs,if_pos h,if_neg hb];rw [ZpY s (s.size - (a+1)) (s.size - (a+(bst s.data.toList a).2)) _ _ (by omega) (by omega)]
end Go.Proofs.YtbjbjbpgmojcbabGreat.Tk
namespace Go.Proofs.YtbjbjbpgmojcbabGreat
open Go.RowKit Go.Maps Go.WideElems Go.ChangeShapes
open Go.WideMaps (keyOf_string_mk)
theorem slaw:Keyed Tryz.prog 9:=string_keyed Tryz.underlying9
theorem Zbz (w:World):(zeroValue 191).run Tryz.prog w=.ok (.slice none 0 0) w:=by kernel_rfl
theorem skey (k:ByteArray) (h:k.size<=maxLen):keyOf Tryz.prog 9 (.string k)=some (.string k.data.toList):=keyOf_string_mk Tryz.underlying9 h
def Znz:DataW Value->List (DataW Value)
 | .slice es _=>es
 | _=>[]
def Zlo (D:DataW Value) (s:ByteArray) (r:Nat):Prop:=∀ k:List UInt8,Znz (D.atKey (.string k) .nil)=lits .i64 ((Tk.plc s.data.toList k r).map (fun p:Nat=>(p:Int)))
theorem Zka:∀ {a b:List Int},lits (H:=Value) .i64 a=lits .i64 b->a=b:=by
 intro a
 induction a with
 | nil=>intro b h;cases b with
  | nil=>rfl
  | cons x b=>simp [lits] at h
 | cons x a ih=>intro b h;cases b with
  | nil=>simp [lits] at h
  | cons y b =>
   simp only [lits,List.map_cons,List.cons.injEq,DataW.lit.injEq,Lit.int.injEq,true_and] at h;rw [h.1,ih (by unfold lits;exact h.2)]
theorem ZeQ {w:World} {base:Nat} {v:Value} {zs:List Int} (h:w.ownsInts base 3 .i64 v zs):Znz (rowDatum .i64 v zs)=lits .i64 zs:=by
 rcases h.datum (H:=Value) with ⟨h1,rfl⟩ | h1
 ·rw [h1];rfl
 ·rw [h1];rfl
theorem ZgF {P:Program} {k E t:TypeId} {w w':World} {b:Nat} {R:Value->Option (DataW Value × List MemPlace)} {es:Array MapEntry} {clock:Nat} {z key v:Value} {kl:Lit} (K:Keyed P k) (ht:P.underlying t=some (.map k E))
 (hz:(zeroValue E).run P w=.ok z w) (hz':(zeroValue E).run P w'=.ok z w') (hb:w.heap[b]?=some (.map es clock)) (hb':w'.heap[b]?=w.heap[b]?) (F:Fit P k R es clock) (hkey:keyOf P k key=some kl)
 (h:(Instr.lookup t (.map (some b)) key false).run P w=.ok v w):(Instr.lookup t (.map (some b)) key false).run P w'=.ok v w':=by
 have F0:Fit P k (fun v=>some ((.held v:DataW Value),([]:List MemPlace))) es clock:=⟨F.size,F.stamped,fun x hx=>by
  obtain ⟨y,hy⟩:=F.reads x hx
  exact ⟨(y.1,.held x.val),by simp [rd,rd_key hy]⟩⟩
 rw [hb] at hb';rcases fit_look false K ht hz hb F0 hkey with ⟨r1,_,a1⟩ | ⟨e1,y1,_,_,r1,y1e,a1,_⟩ <;> rcases fit_look false K ht hz' hb' F0 hkey with ⟨r2,_,a2⟩ | ⟨e2,y2,_,_,r2,y2e,a2,_⟩
 ·rw [r1] at h;rw [r2];simp at h |-
  exact h
 ·exfalso
  have:=(a1 .nil).symm.trans (a2 .nil);have h2:=(a1 (.agg [])).symm.trans (a2 (.agg []));rw [<-this] at h2
  cases h2
 ·exfalso
  have:=(a2 .nil).symm.trans (a1 .nil);have h2:=(a2 (.agg [])).symm.trans (a1 (.agg []));rw [<-this] at h2
  cases h2
 ·rw [r1] at h;rw [r2];simp at h y1e y2e |-
  have:=(a1 .nil).symm.trans (a2 .nil);rw [<-y1e,<-y2e] at this;simp at this;rw [<-this,h]
structure PastAt (w:World) (base gp bm:Nat) (No:Nat->Prop) (s:ByteArray) (r:Nat):Prop where
 c0:w.cell? ⟨gp,0,none⟩=some (.string s)
 c1:w.cell? ⟨gp,1,none⟩=some (.map (some bm))
 c2:w.cell? ⟨gp,2,none⟩=some (.int .i64 (r:Nat))
 f2:w.frozen? ⟨gp,2,none⟩=false
 gb:gp<base
 ne:gp ≠ bm
 bs:base<=w.heap.size
 map:∃ D:DataW Value,IsMap D/\w.ownsGroups Tryz.prog 9 base 3 .i64 bm r D/\w.Shuns bm No/\Zlo D s r
structure Keeps (w w':World) (base gp bm:Nat) (No:Nat->Prop):Prop where
 os:w'.os=w.os
 tape:w'.tape=w.tape
 output:w'.output=w.output
 size:w.heap.size<=w'.heap.size
 block:∀ k,k<w.heap.size->k ≠ gp->k ≠ bm->(k<base\/No k)->w'.heap[k]?=w.heap[k]?
theorem Keeps.refl (w:World) (base gp bm:Nat) (No:Nat->Prop):Keeps w w base gp bm No:=⟨rfl,rfl,rfl,Nat.le_refl _,fun _ _ _ _ _=>rfl⟩
theorem Keeps.trans {a b c:World} {base gp bm:Nat} {No:Nat->Prop} (h:Keeps a b base gp bm No) (k:Keeps b c base gp bm No):Keeps a c base gp bm No :=
 ⟨k.os.trans h.os,k.tape.trans h.tape,k.output.trans h.output,nt h.size k.size,fun i h1 h2 h3 h4=>(k.block i (nT h1 h.size) h2 h3 h4).trans (h.block i h1 h2 h3 h4)⟩
theorem PastAt.below {w w':World} {base gp bm r:Nat} {No:Nat->Prop} {s:ByteArray} (h:PastAt w base gp bm No s r) (hb:Below w.heap.size w w'):PastAt w' base gp bm No s r:=by
 obtain ⟨D,hm,ho,hsh,hr⟩:=h.map
 have hg:w.grownBy w' none:=⟨hb.os,hb.tape,hb.output,hb.size,fun k hk _=>hb.block k hk⟩
 have hlt:gp<w.heap.size:=nT h.gb h.bs;have hbm:bm<w.heap.size:=by obtain ⟨es,clock,hb,_⟩:=ho;exact (aG.1 hb).1
 refine ⟨?_,?_,?_,?_,h.gb,h.ne,nt h.bs hb.size,D,hm,ho.kept hg (by simp) (fun es clock _ x _=>by cases x.val.ownBlock <;> simp),hsh.kept hg hbm (by simp),hr⟩
 ·rw [hb.cell (by exact hlt)];exact h.c0
 ·rw [hb.cell (by exact hlt)];exact h.c1
 ·rw [hb.cell (by exact hlt)];exact h.c2
 ·rw [hb.frozen (by exact hlt)];exact h.f2
theorem Zmf {D:DataW Value} {s:ByteArray} {r:Nat} (hm:IsMap D) (h:Zlo D s r) {k:List UInt8} (hk:Tk.win s.data.toList r=k) {d:DataW Value} {zs:List Int} (hz:Znz (D.atKey (.string k) .nil)=lits .i64 zs) (hd:Znz d=lits .i64 (zs++[(r:Int)])):Zlo (D.put (.string k) d) s (r+1):=by
 intro k';rw [Tk.ZqB];by_cases e:k'=k
 ·subst e;rw [atKey_put_same hm (k:=.string k') (by exact trivial),hd,if_pos hk];have:=Zka ((h k').symm.trans hz);rw [List.map_append,this];rfl
 ·have e3:¬ Tk.win s.data.toList r=k':=fun e2=>e (e2.symm.trans hk)
  rw [atKey_put_other (by simp;exact e),h k',if_neg e3,List.append_nil]
theorem ZlU {w:World} {base gp bm r:Nat} {No:Nat->Prop} {s k:ByteArray} (h:PastAt w base gp bm No s r) (hr:r<1000000) (hk:k.size<=maxLen) (hwin:Tk.win s.data.toList r=k.data.toList) :
 ∃ (v:Value) (zs:List Int),(∀ w',w'.heap[bm]?=w.heap[bm]?->(Instr.lookup 173 (.map (some bm)) (.string k) false).run Tryz.prog w'=.ok v w')/\w.ownsRow base 3 1 v zs.length (zs.map (Value.int .i64))/\zs.length<=r ∧
  ∀ w1 v',w.grownBy w1 v.ownBlock->w1.ownsRow base 3 1 v' (zs.length+1) (zs.map (Value.int .i64)++[.int .i64 (r:Nat)])->(v.ownBlock=v'.ownBlock\/∃ g,v'.ownBlock=some g/\w.heap.size<=g/\¬ No g) →
   ∃ w2,(Instr.mapUpdate 173 (.map (some bm)) (.string k) v').run Tryz.prog w1=.ok () w2/\w1.grownBy w2 (some bm) ∧
    (∃ D:DataW Value,IsMap D/\w2.ownsGroups Tryz.prog 9 base 3 .i64 bm (r+1) D/\w2.Shuns bm No/\Zlo D s (r+1))/\Keeps w w2 base bm bm No:=by
 obtain ⟨D,hm,ho,hsh,hrd⟩:=h.map;have hbb:bm<base:=by obtain ⟨_,_,_,_,_,_,hbb,_⟩:=ho;exact hbb
 have hr2:r<maxLen:=by unfold maxLen;omega
 obtain ⟨v,zs,hrun,hat,hoi,hzl,hback⟩:=ho.at slaw U173 (Zbz w) hr2 (skey k hk)
 have hsv:∀ g,v.ownBlock=some g->¬ No g:=by
  obtain ⟨es,clock,hb,F,_⟩:=ho;rcases fit_look false slaw U173 (Zbz w) hb F (skey k hk) with ⟨hrun',_,_⟩ | ⟨e0,y,hm0,_,hrun',_,_,_⟩
  ·rw [hrun] at hrun';obtain rfl:v=.slice none 0 0:=by simpa using hrun'
   intro g hg'
   cases hg'
  ·rw [hrun] at hrun';obtain rfl:v=e0.val:=by simpa using hrun'
   exact fun g hg'=>hsh es clock hb e0 hm0 g hg'
 refine ⟨v,zs,fun w' hw'=>?_,hoi.1,hzl,fun w1 v' hg hown' hloc=>?_⟩
 ·obtain ⟨es,clock,hb,F,_⟩:=ho;exact ZgF slaw U173 (Zbz w) (Zbz w') hb hw' F (skey k hk) hrun
 ·have hoi':=hoi.appended hown' (WalkArith.wf_i64 (by omega))
  have hloc':v'.ownBlock=v.ownBlock\/∃ g,v'.ownBlock=some g/\w.heap.size<=g:=by
   rcases hloc with h1 | ⟨g,h1,h2,_⟩
   ·exact .inl h1.symm
   ·exact .inr ⟨g,h1,h2⟩
  obtain ⟨w2,hrun2,ho2,hg2⟩:=hback w1 v' (zs++[(r:Int)]) hg hoi' (by simp;omega) hloc';refine ⟨w2,hrun2,hg2,⟨_,hm.put _ _,ho2,?_,?_⟩,?_⟩
  ·obtain ⟨es,clock,hb,F,hs,_,hbb,_⟩:=ho;have hblt:bm<w.heap.size:=(aG.1 hb).1;have hb1:w1.heap[bm]?=some (.map es clock):=(hg.block bm hblt (fun e1=>by have:=(hoi.1.lt bm e1.symm).1;omega)).trans hb;obtain ⟨es',clock',hb2,hwho⟩:=stored_who slaw U173 hb1 F (Nat.lt_of_le_of_lt hs hr2) (skey k hk) hrun2;intro es2 clock2 hb2' y hy g hyg;obtain ⟨rfl,rfl⟩:es'=es2/\clock'=clock2:=by rw [hb2] at hb2';simpa using hb2'
   rcases hwho y hy with ⟨hy0,_⟩ | ⟨_,hval⟩
   ·exact hsh es clock hb y hy0 g hyg
   ·rw [hval] at hyg;rcases hloc with h1 | ⟨g1,h1,_,h3⟩
    ·exact hsv g (by rw [h1];exact hyg)
    ·rw [h1] at hyg
     cases hyg
     exact h3
  ·exact Zmf hm hrd hwin (by rw [hat];exact ZeQ hoi) (ZeQ hoi')
  ·refine ⟨hg2.os.trans hg.os,hg2.tape.trans hg.tape,hg2.output.trans hg.output,nt hg.size hg2.size,fun i h1 _ h3 h4=>?_⟩;rw [hg2.block i (Nat.lt_of_lt_of_le h1 hg.size) (by simp;exact h3)];refine hg.block i h1 (fun e1=>?_);rcases h4 with h4 | h4
   ·have:=(hoi.1.lt i e1.symm).1;omega
   ·exact hsv i e1.symm h4
theorem Keeps.wide {w w':World} {base bm:Nat} {No:Nat->Prop} (h:Keeps w w' base bm bm No) (gp:Nat):Keeps w w' base gp bm No:=⟨h.os,h.tape,h.output,h.size,fun k h1 _ h3 h4=>h.block k h1 h3 h3 h4⟩
theorem Keeps.cell {w w':World} {base gp bm:Nat} {No:Nat->Prop} (h:Keeps w w' base gp bm No) {p:Addr} (h1:p.block<w.heap.size) (h2:p.block ≠ gp) (h3:p.block ≠ bm) (h4:p.block<base\/No p.block):w'.cell? p=w.cell? p:=World.cell?_of_block (w:=w) (h.block p.block h1 h2 h3 h4)
theorem Keeps.frozen {w w':World} {base gp bm:Nat} {No:Nat->Prop} (h:Keeps w w' base gp bm No) {p:Addr} (h1:p.block<w.heap.size) (h2:p.block ≠ gp) (h3:p.block ≠ bm) (h4:p.block<base\/No p.block):w'.frozen? p=w.frozen? p:=World.frozen?_of_block (w:=w) (h.block p.block h1 h2 h3 h4)
theorem Keeps.below {w w':World} {base gp bm B:Nat} {No:Nat->Prop} (h:Keeps w w' base gp bm No) (h1:B<=gp) (h2:B<=bm) (h3:B<=base) (h4:B<=w.heap.size):Below B w w' :=
 ⟨h.os,h.tape,h.output,h.size,fun k hk=>h.block k (by omega) (by omega) (by omega) (.inl (by omega))⟩
theorem Keeps.of_below {w w':World} {base gp bm:Nat} {No:Nat->Prop} (h:Below w.heap.size w w'):Keeps w w' base gp bm No:=⟨h.os,h.tape,h.output,h.size,fun k hk _ _ _=>h.block k hk⟩
theorem Keeps.setCell {w w':World} {base gp bm:Nat} {No:Nat->Prop} (h:Keeps w w' base gp bm No) (o:Nat) (u:Value):Keeps w (w'.setCell ⟨gp,o,none⟩ u) base gp bm No :=
 h.trans ⟨rfl,rfl,rfl,by simp,fun k _ h2 _ _=>zhS _ _ _ _ h2⟩
theorem Znj {w:World} {base gp bm r:Nat} {No:Nat->Prop} {s:ByteArray} (c0:w.cell? ⟨gp,0,none⟩=some (.string s)) (c1:w.cell? ⟨gp,1,none⟩=some (.map (some bm))) (c2:w.cell? ⟨gp,2,none⟩=some (.int .i64 (r:Nat))) (f2:w.frozen? ⟨gp,2,none⟩=false)
 (hgb:gp<base) (hne:gp ≠ bm) (hbs:base<=w.heap.size) (hmap:∃ D:DataW Value,IsMap D/\w.ownsGroups Tryz.prog 9 base 3 .i64 bm (r+1) D/\w.Shuns bm No/\Zlo D s (r+1)) :
 PastAt (w.setCell ⟨gp,2,none⟩ (.int .i64 ((r+1:Nat):Int))) base gp bm No s (r+1):=by
 obtain ⟨D,hm,ho,hsh,hrd⟩:=hmap;have hlt:gp<w.heap.size:=nT hgb hbs;have hbm:bm<w.heap.size:=by obtain ⟨es,clock,hb,_⟩:=ho;exact (aG.1 hb).1
 have hg:w.grownBy (w.setCell ⟨gp,2,none⟩ (.int .i64 ((r+1:Nat):Int))) (some gp):=⟨rfl,rfl,rfl,by simp,fun k _ h2=>zhS _ _ _ _ (fun e=>h2 (by rw [e]))⟩
 refine ⟨?_,?_,?_,?_,hgb,hne,by simpa using hbs,D,hm,ho.kept hg (by simp;exact fun e=>hne e.symm) (ho.rowsAbove (fun j hj=>by cases hj;exact hgb)),hsh.kept hg hbm (by simp;exact fun e=>hne e.symm),hrd⟩
 ·exact (cO w ⟨gp,2,none⟩ ⟨gp,0,none⟩ _ (by simp)).trans c0
 ·exact (cO w ⟨gp,2,none⟩ ⟨gp,1,none⟩ _ (by simp)).trans c1
 ·exact cS w _ _ c2
 ·rw [World.frozen?_setCell];exact f2
theorem ZoJ (s:ByteArray) (a b:Nat) (ha:a<s.size) (hb:b<s.size):((s[a].toNat:Int) == (s[b].toNat:Int))=decide (s.data.toList[a]?=s.data.toList[b]?):=by
 rw [Nm.ZN s a ha,Nm.ZN s b hb];by_cases h:s[a]=s[b]
 ·simp [h]
 ·have:¬ (s[a].toNat:Int)=(s[b].toNat:Int):=fun e=>h (UInt8.toNat_inj.1 (by omega))
  simp [h,this]
theorem Zpx (w:World) (n m:Nat):(w.drewN n).drewN m=w.drewN (n+m):=by simp [World.drewN,Nat.add_assoc]
theorem Zkn (s:ByteArray) (i:Int) (n:Nat) (h:i=(n:Int)) (hn:n<s.size) (w:World):(Instr.index 9 (.string s) (.int .i64 i)).run Tryz.prog w=.ok (.int .u8 (s[n].toNat:Int)) w:=by
 subst h;rw [run_index_string w _ _ _ _ Tryz.underlying9];simp [hn]
theorem ZpS (s:ByteArray) (at_ far:Nat) (w:World) (hs:s.size<=2000) (ha:at_<=s.size) (hf1:1<=far) (hf:far<=at_) :
 Calls Tryz.prog 165 #[.string s,.int .i64 at_,.int .i64 far] w fun e w'=>e=.returned (.int .i64 (Tk.alk s.data.toList (at_ - far) at_ (min 64 (s.size - at_)):Nat))/\Below w.heap.size w w':=by
 have hs2:(s.size:Int)<=2000:=by omega
 have ha2:(at_:Int)<=2000:=by omega
 have hf2:(far:Int)<=(at_:Int):=by omega
 go_enter Tryz.func165,Tryz.ntmps165
 go_wp2_with fail
 go_loopw [7] (fun x wr=>∃ k:Nat,k<=64/\at_+k<=s.size/\x=.int .i64 k/\Hid (∀ j,j<k->s.data.toList[at_ - far+j]?=s.data.toList[at_+j]?)/\Below w.heap.size w wr) (fun x _=>64 - (intOf x).toNat)
 case atStart=>exact ⟨0,by omega,by omega,rfl,fun j h=>by omega,bR _ _⟩
 case round =>
  obtain ⟨k,hk,hka,rfl,hall,G⟩:=hrel;have hr1:IntKind.i64.wrap ((at_:Int)+(k:Int))=(at_:Int)+(k:Int):=IntWalk.i64_in _ ⟨by omega,by omega⟩;have hr2:IntKind.i64.wrap ((at_:Int)+(k:Int) - (far:Int))=(at_:Int)+(k:Int) - (far:Int):=IntWalk.i64_in _ ⟨by omega,by omega⟩;by_cases h64:k<64
  ·have d1:decide ((k:Int)<64)=true:=by simp;omega
   have d1':decide (k<64)=true:=by simp;omega
   by_cases hend:at_+k<s.size
   ·have d2:decide ((at_:Int)+(k:Int)<(s.size:Int))=true:=by simp;omega
    have hb:=ZoJ s (at_+k) (at_+k - far) hend (by omega);have hx1:=Zkn s ((at_:Int)+(k:Int)) (at_+k) (by omega) hend;have hx2:=Zkn s ((at_:Int)+(k:Int) - (far:Int)) (at_+k - far) (by omega) (by omega);generalize (s[at_+k].toNat:Int)=x at *;generalize (s[at_+k - far].toNat:Int)=y at *;by_cases he:s.data.toList[at_+k]?=s.data.toList[at_+k - far]?
    ·rw [decide_eq_true he] at hb
     have HE:Hid (s.data.toList[at_ - far+k]?=s.data.toList[at_+k]?):=by
      show _=_;rw [he,show at_ - far+k=at_+k - far by omega]
     clear he;go_wp2_with fail
     go_quiet (fail)
     go_wp2_with fail
     go_roundw
     case rel =>
      refine ⟨k+1,by omega,by omega,by go_num,?_,below_drewN G _⟩;intro j hj;by_cases hjk:j=k
      ·subst hjk;exact HE.out
      ·exact hall.out j (by omega)
     case measure=>simp [intOf];omega
    ·rw [decide_eq_false he] at hb
     have HE:Hid (Tk.alk s.data.toList (at_ - far) at_ (min 64 (s.size - at_))=k):=by
      refine Tk.Zhv _ _ _ _ _ (by omega) hall.out (Or.inr (fun e=>he ?_));rw [<-e,show at_ - far+k=at_+k - far by omega]
     clear he;go_wp2_with fail
     go_quiet (fail)
     go_wp2_with fail
     go_ret
     exact ⟨by rw [HE.out];rfl,below_drewN G _⟩
   ·have d2:decide ((at_:Int)+(k:Int)<(s.size:Int))=false:=by simp;omega
    have HE:Hid (Tk.alk s.data.toList (at_ - far) at_ (min 64 (s.size - at_))=k):=Tk.Zhv _ _ _ _ _ (by omega) hall.out (Or.inl (by omega));go_wp2_with fail
    go_quiet (fail)
    go_wp2_with fail
    go_ret
    exact ⟨by rw [HE.out];rfl,below_drewN G _⟩
  ·have d1:decide ((k:Int)<64)=false:=by simp;omega
   have d1':decide (k<64)=false:=by simp;omega
   have HE:Hid (Tk.alk s.data.toList (at_ - far) at_ (min 64 (s.size - at_))=k):=Tk.Zhv _ _ _ _ _ (by omega) hall.out (Or.inl (by omega));go_wp2_with fail
   go_quiet (fail)
   go_wp2_with fail
   go_ret
   exact ⟨by rw [HE.out];rfl,below_drewN G _⟩
theorem ZnX (gp:Nat) (s:ByteArray) (a b m:Nat) (w:World) (hc:w.cell? ⟨gp,0,none⟩=some (.string s)) (hs:s.size<=2000) (ha:a+m<=s.size) (hb0:b+m<=s.size) :
 Calls Tryz.prog 177 #[.pointer (some ⟨gp,0,none⟩),.int .i64 a,.int .i64 b,.int .i64 m] w fun e w'=>e=.returned (.int .i64 (Tk.alk s.data.toList a b m:Nat))/\∃ n,w'=w.drewN n:=by
 have hs2:(s.size:Int)<=2000:=by omega
 have hm2:(m:Int)<=2000:=by omega
 go_enter Tryz.func177,Tryz.ntmps177
 go_wp2_with fail
 go_loopw [9] (fun x wr=>∃ k:Nat,k<=m/\x=.int .i64 k/\Hid (∀ j,j<k->s.data.toList[a+j]?=s.data.toList[b+j]?)/\∃ n,wr=w.drewN n) (fun x _=>m - (intOf x).toNat)
 case atStart=>exact ⟨0,by omega,rfl,fun j h=>by omega,0,rfl⟩
 case round =>
  obtain ⟨k,hk,rfl,hall,n,rfl⟩:=hrel;by_cases h64:k<m
  ·have d1:decide ((k:Int)<(m:Int))=true:=by simp;omega
   have d1':decide (k<m)=true:=by simp;omega
   have hr1:IntKind.i64.wrap ((a:Int)+(k:Int))=(a:Int)+(k:Int):=IntWalk.i64_in _ ⟨by omega,by omega⟩;have hr2:IntKind.i64.wrap ((b:Int)+(k:Int))=(b:Int)+(k:Int):=IntWalk.i64_in _ ⟨by omega,by omega⟩;have hb:=ZoJ s (a+k) (b+k) (by omega) (by omega);have hx1:=Zkn s ((a:Int)+(k:Int)) (a+k) (by omega) (by omega);have hx2:=Zkn s ((b:Int)+(k:Int)) (b+k) (by omega) (by omega);generalize (s[a+k].toNat:Int)=x at *;generalize (s[b+k].toNat:Int)=y at *;by_cases he:s.data.toList[a+k]?=s.data.toList[b+k]?
   ·rw [decide_eq_true he] at hb;have HE:Hid (s.data.toList[a+k]?=s.data.toList[b+k]?):=he;clear he;go_wp2_with fail
    go_quiet (fail)
    go_wp2_with fail
    go_roundw
    case rel =>
     refine ⟨k+1,by omega,by go_num,?_,_,rfl⟩;intro j hj;by_cases hjk:j=k
     ·subst hjk;exact HE.out
     ·exact hall.out j (by omega)
    case measure=>simp [intOf];omega
   ·rw [decide_eq_false he] at hb;have HE:Hid (Tk.alk s.data.toList a b m=k):=Tk.Zhv _ _ _ _ _ (by omega) hall.out (Or.inr he);clear he;go_wp2_with fail
    go_quiet (fail)
    go_wp2_with fail
    go_ret
    exact ⟨by rw [HE.out];rfl,_,Zpx _ _ _⟩
  ·have d1:decide ((k:Int)<(m:Int))=false:=by simp;omega
   have d1':decide (k<m)=false:=by simp;omega
   have HE:Hid (Tk.alk s.data.toList a b m=k):=Tk.Zhv _ _ _ _ _ (by omega) hall.out (Or.inl (by omega));go_wp2_with fail
   go_quiet (fail)
   go_wp2_with fail
   go_ret
   exact ⟨by rw [HE.out];rfl,_,Zpx _ _ _⟩
theorem ZnH {w:World} {base gp bm r:Nat} {No:Nat->Prop} {s k:ByteArray} (h:PastAt w base gp bm No s r) (hr:r<1000000) (hk:k.size<=maxLen) :
 ∃ ad cap,(∀ w',w'.heap[bm]?=w.heap[bm]?->(Instr.lookup 173 (.map (some bm)) (.string k) false).run Tryz.prog w'=.ok (.slice ad (Tk.plc s.data.toList k.data.toList r).length cap) w') ∧
  (Tk.plc s.data.toList k.data.toList r=[]\/∃ g,ad=some ⟨g,0,none⟩/\∀ i p,(Tk.plc s.data.toList k.data.toList r)[i]?=some p->w.cell? ⟨g,i,none⟩=some (.int .i64 (p:Nat))):=by
 obtain ⟨D,hm,ho,hsh,hrd⟩:=h.map;have hr2:r<maxLen:=by unfold maxLen;omega
 obtain ⟨v,zs,hrun,hat,hoi,hzl,hback⟩:=ho.at slaw U173 (Zbz w) hr2 (skey k hk);have hz:zs=(Tk.plc s.data.toList k.data.toList r).map (fun p:Nat=>(p:Int)):=Zka ((ZeQ hoi).symm.trans ((congrArg Znz hat).symm.trans (hrd k.data.toList)));subst hz
 have hrun':∀ w',w'.heap[bm]?=w.heap[bm]?->(Instr.lookup 173 (.map (some bm)) (.string k) false).run Tryz.prog w'=.ok v w':=fun w' hw'=>by
  obtain ⟨es,clock,hb,F,_⟩:=ho;exact ZgF slaw U173 (Zbz w) (Zbz w') hb hw' F (skey k hk) hrun
 rcases hoi.1.2 with ⟨rfl,h0⟩ | ⟨g,cap,cur,rfl,_⟩
 ·have h1:Tk.plc s.data.toList k.data.toList r=[]:=List.eq_nil_of_length_eq_zero (by simpa using h0);refine ⟨none,0,fun w' hw'=>?_,.inl h1⟩;rw [h1];exact hrun' w' hw'
 ·refine ⟨some ⟨g,0,none⟩,cap,fun w' hw'=>?_,.inr ⟨g,rfl,fun i p hp=>?_⟩⟩
  ·have:=hrun' w' hw';simpa using this
  ·have hi:i<(Tk.plc s.data.toList k.data.toList r).length:=(List.getElem?_eq_some_iff.1 hp).1;have:=hoi.1.cellAt i (by simpa using hi);rw [this];simp [hp]
theorem Zee (s:ByteArray) (i j:Int) (a b:Nat) (hi:i=(a:Int)) (hj:j=(b:Int)) (hab:a<=b) (hb:b<=s.size) (w:World):(Instr.slice 9 (.string s) (some (.int .i64 i)) (some (.int .i64 j)) none).run Tryz.prog w=.ok (.string (s.extract a b)) w:=by
 subst hi hj;have:=run_slice_string (P:=Tryz.prog) w 9 s .i64 .i64 (a:Int) (b:Int) U9 (by omega) (by omega) (by omega);simpa using this
theorem Zgh (gp:Nat) (s:ByteArray) (a:Nat) (w:World) (hc:w.cell? ⟨gp,0,none⟩=some (.string s)) (hs:s.size<=2000) (hm:s.size<a+3) (ha:a<=s.size) :
 Calls Tryz.prog 157 #[.pointer (some ⟨gp,0,none⟩),.int .i64 a] w fun e w'=>e=.returned (.tuple #[.int .i64 0,.int .i64 0])/\∃ n,w'=w.drewN n:=by
 have _hs:=hs;have hw:IntKind.i64.wrap ((s.size:Int) - (a:Int))=(s.size:Int) - (a:Int):=IntWalk.i64_in _ ⟨by omega,by omega⟩;have d1:decide ((s.size:Int) - (a:Int)<3)=true:=by simp;omega
 go_enter Tryz.func157,Tryz.ntmps157
 go_wp2_with fail
 go_ret2
 exact ⟨rfl,0,rfl⟩
theorem Znl {l:List UInt8} {a m j p:Nat} {zs:List Nat} {b:Nat × Nat} (h:zs[j]?=some p):((zs.take (j+1)).reverse).foldl (Tk.stp l a m) b=((zs.take j).reverse).foldl (Tk.stp l a m) (Tk.stp l a m b p):=by
 rw [List.take_add_one,h];simp
theorem ZdF (gp bm g cap:Nat) (s:ByteArray) (a m:Nat) (zs:List Nat) (ad:Option Addr) (w:World) (hc:w.cell? ⟨gp,0,none⟩=some (.string s)) (hc1:w.cell? ⟨gp,1,none⟩=some (.map (some bm))) (hs:s.size<=2000) (hm:a+3<=s.size)
 (hmm:Hid (m=min 64 (s.size - a))) (hz:zs.length<=2000)
 (hlk:∀ w',w'.heap[bm]?=w.heap[bm]?->(Instr.lookup 173 (.map (some bm)) (.string (s.extract a (a+3))) false).run Tryz.prog w'=.ok (.slice ad zs.length cap) w')
 (hcl:zs=[]\/(ad=some ⟨g,0,none⟩/\∀ i p,zs[i]?=some p->p<a/\w.cell? ⟨g,i,none⟩=some (.int .i64 (p:Nat)))) :
 Calls Tryz.prog 157 #[.pointer (some ⟨gp,0,none⟩),.int .i64 a] w fun e w'=>e=.returned (.tuple #[.int .i64 ((zs.reverse.foldl (Tk.stp s.data.toList a m) (0,0)).1:Nat),.int .i64 ((zs.reverse.foldl (Tk.stp s.data.toList a m) (0,0)).2:Nat)])/\∃ n,w'=w.drewN n:=by
 have hw:IntKind.i64.wrap ((s.size:Int) - (a:Int))=(s.size:Int) - (a:Int):=IntWalk.i64_in _ ⟨by omega,by omega⟩;have hw2:IntKind.i64.wrap ((a:Int)+3)=(a:Int)+3:=IntWalk.i64_in _ ⟨by omega,by omega⟩;have d1:decide ((m:Int)<3)=false:=by have:=hmm.out;simp;omega
 have hmin:min ((s.size:Int) - (a:Int)) 64=(m:Int):=by have:=hmm.out;omega
 have hlk1:∀ n,(Instr.lookup 173 (.map (some bm)) (.string (s.extract a (a+3))) false).run Tryz.prog (w.drewN n)=.ok (.slice ad zs.length cap) (w.drewN n):=fun n=>hlk _ rfl
 have hsl:=Zee s (a:Int) ((a:Int)+3) a (a+3) rfl (by omega) (by omega) (by omega);have hsn:¬ (64:Int)<(m:Int):=by have:=hmm.out;omega
 obtain ⟨bb,hbb⟩:∃ bb,zs.reverse.foldl (Tk.stp s.data.toList a m) (0,0)=bb:=⟨_,rfl⟩
 rw [hbb];have HB:Hid (zs.reverse.foldl (Tk.stp s.data.toList a m) (0,0)=bb):=hbb;clear hbb hlk;go_enter Tryz.func157,Tryz.ntmps157
 go_wp2_with fail
 go_quiet (fail)
 go_wp2_with fail
 go_loopw [10,7,8,11] (fun x y z _ wr=>∃ (i:Int) (j far n:Nat),x=.int .i64 i/\Hid (i=(j:Int) - 1)/\j<=zs.length/\y=.int .i64 far/\z=.int .i64 n/\far<=a/\n<=m/\Hid (((zs.take j).reverse).foldl (Tk.stp s.data.toList a m) (far,n)=bb)/\∃ k,wr=w.drewN k) (fun x _ _ _ _=>(intOf x+1).toNat)
 case atStart=>exact ⟨_,zs.length,0,0,rfl,rfl,nl _,rfl,rfl,by omega,by omega,by show _=_;rw [List.take_length];exact HB.out,_,rfl⟩
 case round =>
  obtain ⟨i,j,far,n,rfl,hi,hj,rfl,rfl,hfar,hn,hfold,kk,rfl⟩:=hrel
  cases j with
  | zero =>
   have h1:i=-1:=by have:=hi.out;omega
   subst h1
   have HE:Hid (bb=(far,n)):=by
    show _=_;rw [<-hfold.out];rfl
   clear hfold hcl hi;go_wp2_with fail
   go_ret2
   rw [HE.out];exact ⟨rfl,_,rfl⟩
  | succ j =>
   have h1:i=(j:Int):=by have:=hi.out;omega
   subst h1;clear hi;by_cases hfull:n<m
   ·have d2:decide ((n:Int)<(m:Int))=true:=by simp;omega
    have d2':decide (n<m)=true:=by simp;omega
    obtain ⟨p,hp⟩:∃ p,zs[j]?=some p:=⟨zs[j],List.getElem?_eq_getElem (by omega)⟩
    rcases hcl with h0 | ⟨rfl,hcell⟩
    ·rw [h0] at hj;simp at hj
    ·obtain ⟨hpa,hce⟩:=hcell j p hp;have hfs:=Znl (l:=s.data.toList) (a:=a) (m:=m) (b:=(far,n)) hp;have hcd:(w.drewN kk).cell? ⟨gp,0,none⟩=some (.string s):=hc;have hced:∀ k,(w.drewN k).cell? ⟨g,j,none⟩=some (.int .i64 (p:Nat)):=fun _=>hce
     have hm3:=hmm.out;have hal:=ZnX gp s p a m (w.drewN kk) hcd hs (by omega) (by omega);have hjl:j<zs.length:=by omega
     have hjl2:(j:Int)<(zs.length:Int):=by omega
     have hkm:=Tk.ZjE s.data.toList m p a;have hwp:IntKind.i64.wrap ((a:Int) - (p:Int))=(a:Int) - (p:Int):=IntWalk.i64_in _ ⟨by omega,by omega⟩
     obtain ⟨k,hk⟩:∃ k,Tk.alk s.data.toList p a m=k:=⟨_,rfl⟩
     rw [hk] at hal hkm;by_cases hbig:n<k
     ·have HF:Hid (((zs.take j).reverse).foldl (Tk.stp s.data.toList a m) (a - p,k)=bb):=by
       show _=_;rw [<-hfold.out,hfs];unfold Tk.stp;rw [hk,if_pos (by exact hbig)]
      have d3:decide ((n:Int)<(k:Int))=true:=by simp;omega
      have d3':decide (n<k)=true:=by simp;omega
      have HM:Hid (m=min 64 (s.size - a)):=hm3;clear hm3 hfs hfold hk hp hcell;go_wp2_with (go_at_call 177;go_must (refine hal.mono ?_;rintro e w1 ⟨rfl,k2,rfl⟩;rw [Zpx]))
      go_roundw
      case rel=>exact ⟨_,j,a - p,k,rfl,by show _=_;omega,by omega,by simp;omega,rfl,by omega,hkm,HF,_,rfl⟩
      case measure=>simp [intOf]
     ·have HF:Hid (((zs.take j).reverse).foldl (Tk.stp s.data.toList a m) (far,n)=bb):=by
       show _=_;rw [<-hfold.out,hfs];unfold Tk.stp;rw [hk,if_neg (by exact hbig)]
      have d3:decide ((n:Int)<(k:Int))=false:=by simp;omega
      have d3':decide (n<k)=false:=by simp;omega
      have HM:Hid (m=min 64 (s.size - a)):=hm3;clear hm3 hfs hfold hk hp hcell;go_wp2_with (go_at_call 177;go_must (refine hal.mono ?_;rintro e w1 ⟨rfl,k2,rfl⟩;rw [Zpx]))
      go_roundw
      case rel=>exact ⟨_,j,far,n,rfl,by show _=_;omega,by omega,rfl,rfl,hfar,hn,HF,_,rfl⟩
      case measure=>simp [intOf]
   ·have d2:decide ((n:Int)<(m:Int))=false:=by simp;omega
    have d2':decide (n<m)=false:=by simp;omega
    have HE:Hid (bb=(far,n)):=by
     show _=_;rw [<-hfold.out,Tk.Znx (by simp;omega)]
    clear hfold hcl;go_wp2_with fail
    go_ret2
    rw [HE.out];exact ⟨rfl,_,rfl⟩
end Go.Proofs.YtbjbjbpgmojcbabGreat
