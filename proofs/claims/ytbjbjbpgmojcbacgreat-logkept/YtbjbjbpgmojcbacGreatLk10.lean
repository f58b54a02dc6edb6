/- A part of the proof: what it leans on. -/
import Derived.Test.YtbjbjbpgmojcbacGreatLk09
namespace Go.Proofs.YtbjbjbpgmojcbacGreat.Cd
theorem Zdz {f ws:Nat->Int} {b:ByteArray}:∀ (m n:Nat) (word:Int) (a:Nat),1<=n->(sgn f ws b m n word a).1 ≠ -1->∃ s d:Nat,sgn f ws b m n word a=((s:Int),a+d)/\s<16/\f s=((n+d:Nat):Int) - 1/\1<=d/\d<=m/\a+d<=8*b.size/\ws s / 2 ^ d=word/\∀ j,j<d->(ZH b (a+j):Int)=ws s / 2 ^ (d - 1 - j) % 2:=by
 intro m
 induction m with
 | zero=>intro n word a _ h;exact absurd rfl h
 | succ m ih =>
  intro n word a hn h;have hb:=ZdC b a;by_cases h0:8*b.size<=a
  ·rw [Ziv h0] at h;exact absurd rfl h
  ·cases h1:fnd f ws n (2*word+ZH b a) with
   | none =>
    rw [ZdI h0 h1] at h |-
    have hnn:((n:Int)+1)=((n+1:Nat):Int):=by omega
    rw [hnn] at h |-
    obtain ⟨s,d,e,hs,hf,hd,hm,hz,hw,hj⟩:=ih (n+1) _ (a+1) (by omega) h
    have e1:ws s / 2 ^ (d+1)=word:=by
     rw [Int.pow_succ,<-Int.ediv_ediv_of_nonneg (by have:=pow_pos d;omega),hw];omega
    refine ⟨s,d+1,by rw [e,show a+1+d=a+(d+1) by omega],hs,by omega,by omega,by omega,by omega,e1,fun j hjd=>?_⟩
    cases j with
    | zero=>rw [show d+1 - 1 - 0=d by omega,hw,Nat.add_zero];omega
    | succ j =>
     have:=hj j (by omega);rw [show a+1+j=a+(j+1) by omega] at this;rw [this,show d+1 - 1 - (j+1)=d - 1 - j by omega]
   | some s =>
    rw [ZdH h0 h1]
    have hfi:∀ k,find f ws n (2*word+ZH b a) k=some s->s<k/\f s=n/\ws s=2*word+ZH b a:=by
     intro k
     induction k with
     | zero=>intro h;simp [find] at h
     | succ k ih2 =>
      intro h;rw [find] at h
      cases hq:find f ws n (2*word+ZH b a) k with
      | some t =>
       rw [hq] at h;simp only [Option.some.injEq] at h;subst h;have:=ih2 hq;exact ⟨by omega,this.2⟩
      | none =>
       rw [hq] at h;simp only at h;split at h
       ·rename_i h9
        simp only [Option.some.injEq] at h;subst h;exact ⟨by omega,h9⟩
       ·simp at h
    obtain ⟨q1,q2,q3⟩:=hfi 16 h1;refine ⟨s,1,rfl,q1,by omega,by omega,by omega,by omega,by rw [q3];simp;omega,fun j hj=>?_⟩;obtain rfl:j=0:=by omega
    rw [q3];simp;omega
theorem ZsB {f ws:Nat->Int} {n word:Int} {s:Nat} (h1:f s=n) (h2:ws s=word) (hu:∀ i,i<16->f i=n->ws i=word->i=s):∀ k,k<=16->find f ws n word k=if s<k then some s else none:=by
 intro k
 induction k with
 | zero=>intro _;rfl
 | succ k ih =>
  intro hk;rw [find,ih (by omega)];by_cases h:s<k
  ·rw [if_pos h];simp only;rw [if_pos (by omega)]
  ·rw [if_neg h];simp only;by_cases e:s=k
   ·subst e;rw [if_pos ⟨h1,h2⟩,if_pos (by omega)]
   ·rw [if_neg (fun h9=>e (hu k (by omega) h9.1 h9.2).symm),if_neg (by omega)]
theorem Zrc {f ws:Nat->Int} {n word:Int} (hu:∀ i,i<16->f i=n->ws i ≠ word):∀ k,k<=16->find f ws n word k=none:=by
 intro k
 induction k with
 | zero=>intro _;rfl
 | succ k ih =>
  intro hk;exact ZgK (ih (by omega)) (fun h=>hu k (by omega) h.1 h.2)
theorem Zhq {f ws:Nat->Int} {b:ByteArray} {s:Nat} (hs:s<16) {N:Nat} (hN:f s=(N:Int))
 (hu:∀ i,i<16->f i=f s->ws i=ws s->i=s) (hp:∀ n:Nat,1<=n->n<N->∀ i,i<16->f i=(n:Int)->ws i ≠ ws s / 2 ^ (N - n)) :
 ∀ (d m n:Nat) (word:Int) (a:Nat),1<=n->n+d=N+1->1<=d->d<=m->a+d<=8*b.size->ws s / 2 ^ d=word->(∀ j,j<d->(ZH b (a+j):Int)=ws s / 2 ^ (d - 1 - j) % 2)->sgn f ws b m n word a=((s:Int),a+d):=by
 intro d
 induction d with
 | zero=>intro m n word a _ _ h;omega
 | succ d ih =>
  intro m n word a hn1 hn _ hm hb hw hj
  obtain ⟨m,rfl⟩:∃ j,m=j+1:=⟨m - 1,by omega⟩
  have hb0:=hj 0 (by omega);rw [Nat.add_zero,show d+1 - 1 - 0=d by omega] at hb0
  have hw1:2*word+(ZH b a:Int)=ws s / 2 ^ d:=by
   rw [Int.pow_succ,<-Int.ediv_ediv_of_nonneg (by have:=pow_pos d;omega)] at hw;omega
  by_cases h0:d=0
  ·subst h0;rw [Int.pow_zero,Int.ediv_one] at hw1;obtain rfl:n=N:=by omega
   refine ZdH (by omega) ?_;rw [hw1,fnd,ZsB hN rfl (fun i hi h1 h2=>hu i hi (by rw [h1,hN]) h2) 16 (nl _),if_pos hs]
  ·rw [ZdI (by omega) (by rw [hw1,fnd];exact Zrc (fun i hi h1=>by have:=hp n hn1 (by omega) i hi h1;rwa [show N - n=d by omega] at this) 16 (nl _)),hw1,show ((n:Int)+1)=((n+1:Nat):Int) by omega]
   rw [ih m (n+1) _ (a+1) (by omega) (by omega) (by omega) (by omega) (by omega) rfl (fun j hjd=>by
    have:=hj (j+1) (by omega);rw [show a+(j+1)=a+1+j by omega,show d+1 - 1 - (j+1)=d - 1 - j by omega] at this
    exact this),show a+1+d=a+(d+1) by omega]
theorem Zrn (f:Nat->Int) (n:Int) (x:Int × (Nat->Int)):∀ k,(∀ i,¬ (i<k/\f i=n)->(wI f n x k).2 i=x.2 i)/\(∀ i,i<k->f i=n->x.1<=(wI f n x k).2 i/\(wI f n x k).2 i<(wI f n x k).1)/\(∀ i j,i<j->j<k->f i=n->f j=n->(wI f n x k).2 i<(wI f n x k).2 j):=by
 intro k
 induction k with
 | zero=>exact ⟨fun i _=>rfl,fun i h=>by omega,fun i j _ h=>by omega⟩
 | succ k ih =>
  obtain ⟨i1,i2,i3⟩:=ih;have hb:=wI_b f n x k;rw [wI];by_cases h:f k=n
  ·rw [if_pos h];simp only;refine ⟨fun i hi=>?_,fun i hi hf=>?_,fun i j hij hj hf hg=>?_⟩
   ·have e:i ≠ k:=fun e=>hi ⟨by omega,by rw [e];exact h⟩
    rw [Zg _ _ e];exact i1 i (fun h9=>hi ⟨by omega,h9.2⟩)
   ·by_cases e:i=k
    ·subst e;rw [ZC];omega
    ·rw [Zg _ _ e];have:=i2 i (by omega) hf;omega
   ·rw [Zg _ _ (by omega)];by_cases e:j=k
    ·subst e;rw [ZC];have:=i2 i (by omega) hf;omega
    ·rw [Zg _ _ e];exact i3 i j hij (by omega) hf hg
  ·rw [if_neg h];refine ⟨fun i hi=>i1 i (fun h9=>hi ⟨by omega,h9.2⟩),fun i hi hf=>?_,fun i j hij hj hf hg=>?_⟩
   ·have e:i ≠ k:=fun e=>h (by rw [<-e];exact hf)
    exact i2 i (by omega) hf
   ·have e:j ≠ k:=fun e=>h (by rw [<-e];exact hg)
    exact i3 i j hij (by omega) hf hg
theorem ZrM (f:Nat->Int) (n:Nat):(wO f n).1*2<=(wO f (n+1)).1:=by
 rw [wO];exact (wI_b f _ _ 16).1
theorem ZrL (f:Nat->Int) (n:Nat):∀ j,(wO f n).1*2 ^ j<=(wO f (n+j)).1:=by
 intro j
 induction j with
 | zero=>simp
 | succ j ih =>
  have:=ZrM f (n+j);rw [<-Nat.add_assoc,Int.pow_succ,<-Int.mul_assoc];omega
theorem Zfp (f:Nat->Int) (i:Nat) (n:Nat) (hf:f i=((n+1:Nat):Int)):∀ j,(wO f (n+1+j)).2 i=(wO f (n+1)).2 i:=by
 intro j
 induction j with
 | zero=>rfl
 | succ j ih =>
  rw [<-Nat.add_assoc,wO,(Zrn f _ _ 16).1 i (fun h=>by omega)];exact ih
theorem ZlW {f:Nat->Int} {i n:Nat} (hi:i<16) (hn:n+1<=15) (hf:f i=((n+1:Nat):Int)):(wO f n).1*2<=wds f i/\wds f i<(wO f (n+1)).1:=by
 have h:=Zfp f i n hf (15 - (n+1));rw [show n+1+(15 - (n+1))=15 by omega] at h;rw [wds,h,wO];exact (Zrn f _ _ 16).2.1 i hi hf
theorem ZnF {f:Nat->Int} {i j n:Nat} (hi:i<16) (hj:j<16) (hn:n+1<=15) (hf:f i=((n+1:Nat):Int)) (hg:f j=((n+1:Nat):Int)) (h:wds f i=wds f j):i=j:=by
 have h1:=Zfp f i n hf (15 - (n+1));have h2:=Zfp f j n hg (15 - (n+1));rw [show n+1+(15 - (n+1))=15 by omega] at h1 h2;rw [wds,h1,h2,wO] at h;have h3:=(Zrn f (n+1:Nat) ((wO f n).1*2,(wO f n).2) 16).2.2;rcases Nat.lt_trichotomy i j with h4 | h4 | h4
 ·have:=h3 i j h4 hj hf hg;omega
 ·exact h4
 ·have:=h3 j i h4 hi hg hf;omega
theorem ZjR {f:Nat->Int} {s N:Nat} (hs:s<16) (hN:f s=(N:Int)) (hN1:1<=N) (hN2:N<=15):∀ n:Nat,1<=n->n<N->∀ i,i<16->f i=(n:Int)->wds f i ≠ wds f s / 2 ^ (N - n):=by
 intro n hn1 hn i hi hf h
 obtain ⟨n,rfl⟩:∃ j,n=j+1:=⟨n - 1,by omega⟩
 obtain ⟨N,rfl⟩:∃ j,N=j+1:=⟨N - 1,by omega⟩
 have h1:=(ZlW hi (by omega) hf).2;have h2:=(ZlW hs (by omega) hN).1;have h3:=ZrL f (n+1) (N - (n+1));rw [show n+1+(N - (n+1))=N by omega] at h3;have hp:=pow_pos (N+1 - (n+1))
 have h4:(wO f (n+1)).1*2 ^ (N+1 - (n+1))<=wds f s:=by
  rw [show N+1 - (n+1)=(N - (n+1))+1 by omega,Int.pow_succ,<-Int.mul_assoc];omega
 have h5:(wO f (n+1)).1<=wds f s / 2 ^ (N+1 - (n+1)):=(Int.le_ediv_iff_mul_le (by omega)).2 h4;omega
theorem Ztp (f:Nat->Int) (n:Int) (x:Int × (Nat->Int)) (c:Int):∀ k,((wI f n x k).1 - x.1)*c=tot (fun i=>if f i=n then c else 0) k:=by
 intro k
 induction k with
 | zero=>simp [wI,tot]
 | succ k ih =>
  rw [wI,tot];by_cases h:f k=n
  ·rw [if_pos h,if_pos h,<-ih];simp only;rw [Int.sub_mul,Int.sub_mul,Int.add_mul];omega
  ·rw [if_neg h,if_neg h,ih];omega
theorem ZsL {g h:Nat->Int}:∀ k,tot (fun i=>g i+h i) k=tot g k+tot h k:=by
 intro k
 induction k with
 | zero=>rfl
 | succ k ih=>rw [tot,tot,tot,ih];omega
theorem ZjA {g h:Nat->Int}:∀ k,(∀ i,i<k->g i=h i)->tot g k=tot h k:=by
 intro k
 induction k with
 | zero=>intro _;rfl
 | succ k ih=>intro e;rw [tot,tot,ih (fun i hi=>e i (by omega)),e k (by omega)]
theorem ZpR {g h:Nat->Int}:∀ k,(∀ i,i<k->g i<=h i)->tot g k<=tot h k:=by
 intro k
 induction k with
 | zero=>intro _;exact Int.le_refl _
 | succ k ih=>intro e;rw [tot,tot];have:=e k (by omega);have:=ih (fun i hi=>e i (by omega));omega
theorem ZuA (f:Nat->Int):∀ k,sm f k=tot (fun i=>wt (f i)) k:=by
 intro k
 induction k with
 | zero=>rfl
 | succ k ih=>rw [sm,tot,ih]
theorem ZtZ (f:Nat->Int) (hr:InR f 15 16):∀ n,n<=15->(wO f n).1*2 ^ (15 - n)=tot (fun i=>if f i<=(n:Int) then wt (f i) else 0) 16:=by
 intro n
 induction n with
 | zero =>
  intro _
  rw [ZjA (h:=fun _=>0) 16 (fun i hi=>by
   have:=hr i hi;by_cases h:f i<=((0:Nat):Int)
   ·rw [if_pos h,Zdg (by omega)]
   ·rw [if_neg h])]
  simp [wO,tot]
 | succ n ih =>
  intro hn;have h1:=ih (by omega);have h2:=Ztp f (n+1:Nat) ((wO f n).1*2,(wO f n).2) (2 ^ (15 - (n+1))) 16
  have h3:tot (fun i=>if f i<=((n+1:Nat):Int) then wt (f i) else 0) 16=tot (fun i=>(if f i<=(n:Int) then wt (f i) else 0)+(if f i=((n+1:Nat):Int) then 2 ^ (15 - (n+1)) else 0)) 16:=ZjA 16 (fun i hi=>by
   by_cases e1:f i<=(n:Int)
   ·rw [if_pos (by omega),if_pos e1,if_neg (by omega)];omega
   ·by_cases e2:f i=((n+1:Nat):Int)
    ·rw [if_pos (by omega),if_neg e1,if_pos e2,e2,ZeR (by omega),show (15 - ((n+1:Nat):Int)).toNat=15 - (n+1) by omega];omega
    ·rw [if_neg (by omega),if_neg e1,if_neg e2];omega)
  have e9:wI f (n+1:Nat) ((wO f n).1*2,(wO f n).2) 16=wO f (n+1):=rfl;rw [e9] at h2;rw [h3,ZsL,<-h1,<-h2,Int.sub_mul,show 15 - n=(15 - (n+1))+1 by omega,Int.pow_succ,Int.mul_assoc,Int.mul_comm 2 (2 ^ (15 - (n+1)))];omega
theorem Zqz {f:Nat->Int} (h:chk f=0) {s N:Nat} (hs:s<16) (hN:f s=(N:Int)) (hN1:1<=N) (hN2:N<=15):wds f s<2 ^ N:=by
 obtain ⟨h1,_,h3⟩:=Ze h
 obtain ⟨N,rfl⟩:∃ j,N=j+1:=⟨N - 1,by omega⟩
 have h2:=(ZlW hs (by omega) hN).2;have h4:=ZtZ f h1 (N+1) hN2
 have h5:tot (fun i=>if f i<=((N+1:Nat):Int) then wt (f i) else 0) 16<=tot (fun i=>wt (f i)) 16:=ZpR 16 (fun i hi=>by
  have:=h1 i hi;by_cases e:f i<=((N+1:Nat):Int)
  ·rw [if_pos e];exact Int.le_refl _
  ·rw [if_neg e];exact (wt_b this.1 this.2).1)
 rw [<-ZuA] at h5;have h6:(32768:Int)=2 ^ (N+1)*2 ^ (15 - (N+1)):=by rw [<-Int.pow_add,show N+1+(15 - (N+1))=15 by omega];rfl
 have hp:=pow_pos (15 - (N+1));have h7:(wO f (N+1)).1*2 ^ (15 - (N+1))<=2 ^ (N+1)*2 ^ (15 - (N+1)):=by omega
 have h8:=Int.le_of_mul_le_mul_right h7 (by omega);omega
theorem Zut (word:Int):∀ k j,j<k->(wb word k).getD j false=decide (word / 2 ^ (k - 1 - j) % 2=1):=by
 intro k
 induction k with
 | zero=>intro j h;omega
 | succ k ih =>
  intro j hj
  cases j with
  | zero=>rw [wb];rfl
  | succ j =>
   rw [wb];have:=ih j (by omega);rw [List.getD_cons_succ,this,show k+1 - 1 - (j+1)=k - 1 - j by omega]
theorem Zto (word:Int) (k:Nat):(bv (decide (word / 2 ^ k % 2=1)):Int)=word / 2 ^ k % 2:=by
 unfold bv;by_cases h:word / 2 ^ k % 2=1
 ·simp [h]
 ·have:word / 2 ^ k % 2=0:=by omega
  simp [this]
theorem ZiG {xs ys:List Bool} {i:Nat} (h:i<xs.length):bq (xs++ys) i=bq xs i:=by
 simp [bq,List.getD_eq_getElem?_getD,List.getElem?_append_left h]
theorem ZfC {xs ys:List Bool} {i:Nat}:bq (xs++ys) (xs.length+i)=bq ys i:=by
 simp [bq,List.getD_eq_getElem?_getD,List.getElem?_append_right]
theorem ZoO (word:Int) {k j:Nat} (h:j<k):(bq (wb word k) j:Int)=word / 2 ^ (k - 1 - j) % 2:=by
 rw [bq,Zut word k j h,Zto]
theorem ZqN (bs:List Bool) {j:Nat} (h:j<(bs.length+7) / 8):at8 ⟨(pk bs).toArray⟩ j=byt bs j:=by
 unfold at8;simp only;rw [Zkj bs h];have:=ZqI bs j;simp;omega
theorem ZkP (bs:List Bool) (j r:Nat) (hr:r<8):byt bs j / 2 ^ (7 - r) % 2=bq bs (8*j+r):=by
 have h0:=ZaE bs (8*j);have h1:=ZaE bs (8*j+1);have h2:=ZaE bs (8*j+2);have h3:=ZaE bs (8*j+3);have h4:=ZaE bs (8*j+4);have h5:=ZaE bs (8*j+5);have h6:=ZaE bs (8*j+6);have h7:=ZaE bs (8*j+7);unfold byt;obtain rfl | rfl | rfl | rfl | rfl | rfl | rfl | rfl:r=0\/r=1\/r=2\/r=3\/r=4\/r=5\/r=6\/r=7:=by omega
 all_goals
  simp only [Nat.add_zero,Nat.reduceSub,Nat.reducePow];omega
theorem ZtC (bs:List Bool) {i:Nat} (h:i<8*((bs.length+7) / 8)):ZH ⟨(pk bs).toArray⟩ i=bq bs i:=by
 rw [ZH,ZqN bs (by omega),ZkP bs _ _ (by omega),show 8*(i / 8)+i % 8=i by omega]
theorem ZfA (bs:List Bool):(⟨(pk bs).toArray⟩:ByteArray).size=(bs.length+7) / 8:=by
 show (pk bs).toArray.size=_;simp [ZbY]
theorem ZqH (bs:List Bool):end_ ⟨(pk bs).toArray⟩ bs.length=true:=by
 rw [end_,ZfA];by_cases h:bs.length % 8=0
 ·simp [h]
 ·rw [ZqN bs (by omega)];have hn:bs.length=8*(bs.length / 8)+bs.length % 8:=by omega
  have hm:=(Zis bs false (bs.length / 8) (bs.length % 8) (by omega) hn).2;have hr:bs.length % 8<8:=by omega
  generalize bs.length % 8=r at *;generalize byt bs (bs.length / 8)=x at *
  have:x*2 ^ r % 256=0:=by
   obtain rfl | rfl | rfl | rfl | rfl | rfl | rfl | rfl:r=0\/r=1\/r=2\/r=3\/r=4\/r=5\/r=6\/r=7:=by omega
   all_goals
    simp only [Nat.reduceSub,Nat.reducePow] at hm |-
    omega
  simp [this]
theorem ZgG {f:Nat->Int} (h:chk f=0) {s:Nat} (hs:s<16) (h0:f s ≠ 0) (pre post:List Bool):s15 f ⟨(pk (pre++cw f s++post)).toArray⟩ pre.length=((s:Int),(pre++cw f s).length):=by
 obtain ⟨h1,_,_⟩:=Ze h;have h2:=h1 s hs
 obtain ⟨N,hN⟩:∃ N:Nat,f s=(N:Int):=⟨(f s).toNat,by omega⟩
 have hl:(cw f s).length=N:=by rw [cw,Zdq,hN];rfl
 have hlt:=Zqz h hs hN (by omega) (by omega);have h9:=Znm f s;rw [s15,List.length_append,hl];refine Zhq hs hN (fun i hi e1 e2=>?_) (fun n hn1 hn i hi e1=>ZjR hs hN (by omega) (by omega) n hn1 hn i hi e1) N 15 1 0 _ (by omega) (by omega) (by omega) (by omega) ?_ (Int.ediv_eq_zero_of_lt h9.1 hlt) (fun j hj=>?_)
 ·exact ZnF (n:=N - 1) hi hs (by omega) (by omega) (by omega) e2
 ·rw [ZfA];simp only [List.length_append,hl];omega
 ·rw [ZtC _ (by simp only [List.length_append,hl];omega),ZiG (by simp only [List.length_append,hl];omega),ZfC,cw,hN];exact ZoO _ hj
theorem ZrI {f:Nat->Int} {s t:ByteArray}:∀ k,(∀ i,i<k->at8 s i=at8 t i)->wrK f s k=wrK f t k:=by
 intro k
 induction k with
 | zero=>intro _;rfl
 | succ k ih=>intro h;rw [wrK,wrK,ih (fun i hi=>h i (by omega)),h k (by omega)]
theorem ZsF {f:Nat->Int} {s:ByteArray} {k:Nat}:∀ j bs,wrK f s (k+j)=some bs->∃ b1 b2,wrK f s k=some b1/\bs=b1++b2:=by
 intro j
 induction j with
 | zero=>intro bs h;exact ⟨bs,[],h,by simp⟩
 | succ j ih =>
  intro bs h;rw [<-Nat.add_assoc,wrK] at h
  cases hq:wrK f s (k+j) with
  | none=>rw [hq] at h;simp at h
  | some b3 =>
   rw [hq] at h;simp only at h;split at h
   ·simp at h
   ·simp only [Option.some.injEq] at h;obtain ⟨b1,b2,e1,e2⟩:=ih b3 hq;exact ⟨b1,b2++cw f (at8 s (k+j) / 16)++cw f (at8 s (k+j) % 16),e1,by rw [<-h,e2];simp⟩
theorem ZqB (s:ByteArray) (k:Nat):UInt8.ofNat (at8 s k)=s.data.toList[k]?.getD 0:=by
 unfold at8;exact UInt8.ofNat_toNat ..
theorem Zf (s:ByteArray):s.data.toList.length=s.size:=by cases s;simp only [Array.length_toList];rfl
theorem ZrD {f:Nat->Int} (h:chk f=0) {s:ByteArray} {bs:List Bool} (hw:wrK f s s.size=some bs):∀ k,k<=s.size->∃ b1 b2,wrK f s k=some b1/\bs=b1++b2/\rdK f ⟨(pk bs).toArray⟩ k=some (s.data.toList.take k,b1.length):=by
 intro k
 induction k with
 | zero=>intro _;exact ⟨[],bs,rfl,rfl,by simp [rdK]⟩
 | succ k ih =>
  intro hk;obtain ⟨b1,b2,e1,e2,e3⟩:=ih (by omega);obtain ⟨c1,c2,g1,g2⟩:=ZsF (k:=k+1) (s.size - (k+1)) bs (by rw [show k+1+(s.size - (k+1))=s.size by omega];exact hw);have g1':=g1;rw [wrK,e1] at g1;simp only at g1;split at g1
  ·simp at g1
  ·rename_i hz
   simp only [Option.some.injEq] at g1;have hl8:=ZaC s k;have r1:=ZgG h (s:=at8 s k / 16) (by omega) (fun e=>hz (.inl e)) b1 (cw f (at8 s k % 16)++c2);have r2:=ZgG h (s:=at8 s k % 16) (by omega) (fun e=>hz (.inr e)) (b1++cw f (at8 s k / 16)) c2;have eb:bs=b1++cw f (at8 s k / 16)++(cw f (at8 s k % 16)++c2):=by rw [g2,<-g1];simp
   have eb2:bs=b1++cw f (at8 s k / 16)++cw f (at8 s k % 16)++c2:=by rw [g2,<-g1]
   rw [<-eb] at r1;rw [<-eb2] at r2;refine ⟨c1,c2,g1',g2,?_⟩;rw [Zfr e3 r1 r2 (by omega),<-g1];have e16:(((at8 s k / 16:Nat):Int)*16+((at8 s k % 16:Nat):Int)).toNat=at8 s k:=by omega
   rw [e16,ZqB,List.take_add_one];have hkl:k<s.data.toList.length:=by rw [Zf];omega
   rw [List.getElem?_eq_getElem hkl];rfl
theorem Ztz {f:Nat->Int} {s:ByteArray} (h:(wrt f s).2=0):rd f (wrt f s).1 (s.size:Nat)=(s,0):=by
 have hc:chk f=0:=by
  by_cases e:chk f=0
  ·exact e
  ·rw [wrt,if_pos e] at h;exact absurd h e
 have hs:¬ 1024<s.size:=by
  intro e;rw [wrt,if_neg (fun h=>h hc),if_pos e] at h;exact absurd h (by decide)
 cases hq:wrK f s s.size with
 | none=>rw [wrt,if_neg (fun h=>h hc),if_neg hs,hq] at h;exact absurd h (by decide)
 | some bs =>
  have e:(wrt f s).1=⟨(pk bs).toArray⟩:=by rw [wrt,if_neg (fun h=>h hc),if_neg hs,hq]
  obtain ⟨b1,b2,e1,e2,e3⟩:=ZrD hc hq s.size (nl _);rw [hq] at e1;simp only [Option.some.injEq] at e1;subst e1;rw [e,rd,if_neg (fun h=>h hc),if_neg (by omega),Int.toNat_natCast,e3];simp only;rw [if_pos (ZqH bs),List.take_of_length_le (by rw [Zf];exact nl _)]
theorem Zui {word:Int} {N:Nat} {bs:List Bool} {b:ByteArray} {a:Nat} (h:∀ j,j<N->(ZH b (a+j):Int)=word / 2 ^ (N - 1 - j) % 2) (hl:bs.length=a) (hb:∀ i,i<a->ZH b i=bq bs i):∀ i,i<a+N->ZH b i=bq (bs++wb word N) i:=by
 intro i hi;by_cases h1:i<a
 ·rw [ZiG (by omega)];exact hb i h1
 ·obtain ⟨j,rfl⟩:∃ j,i=a+j:=⟨i - a,by omega⟩
  have h2:=h j (by omega);rw [<-ZoO word (by omega:j<N)] at h2;have h3:bq (bs++wb word N) (bs.length+j)=bq (wb word N) j:=ZfC;rw [hl] at h3;omega
theorem Zjy {f:Nat->Int} {b:ByteArray} {a:Nat} (h:(s15 f b a).1 ≠ -1) {bs:List Bool} (hl:bs.length=a) (hb:∀ i,i<a->ZH b i=bq bs i) :
 ∃ s:Nat,s<16/\f s ≠ 0/\s15 f b a=((s:Int),(bs++cw f s).length)/\(bs++cw f s).length<=8*b.size/\∀ i,i<(bs++cw f s).length->ZH b i=bq (bs++cw f s) i:=by
 obtain ⟨s,d,e,hs,hf,hd,hm,hz,hw,hj⟩:=Zdz 15 1 0 a (nl _) h;have hfd:f s=(d:Int):=by omega
 have ec:cw f s=wb (wds f s) d:=by rw [cw,hfd];rfl
 have el:(bs++cw f s).length=a+d:=by rw [List.length_append,ec,Zdq,hl]
 refine ⟨s,hs,by omega,by rw [el];exact e,by rw [el];exact hz,?_⟩;rw [el,ec];exact Zui hj hl hb
theorem ZfJ {f:Nat->Int} {b:ByteArray}:∀ k o a,rdK f b k=some (o,a)->∃ bs,o.length=k/\bs.length=a/\a<=8*b.size/\wrK f ⟨o.toArray⟩ k=some bs/\∀ i,i<a->ZH b i=bq bs i:=by
 intro k
 induction k with
 | zero =>
  intro o a h;simp only [rdK,Option.some.injEq,Prod.mk.injEq] at h;obtain ⟨rfl,rfl⟩:=h;exact ⟨[],rfl,rfl,by omega,rfl,fun i h=>by omega⟩
 | succ k ih =>
  intro o a h;rw [rdK] at h
  cases hq:rdK f b k with
  | none=>rw [hq] at h;simp at h
  | some x =>
   obtain ⟨o1,a1⟩:=x;rw [hq] at h;simp only at h;split at h
   ·simp at h
   ·rename_i hne
    obtain ⟨bs,l1,l2,l3,e1,e2⟩:=ih o1 a1 hq;obtain ⟨s,hs,fs,es,zs,ts⟩:=Zjy (f:=f) (b:=b) (fun h9=>hne (.inl h9)) l2 e2;rw [es] at h hne;simp only at h hne;obtain ⟨t,ht,ft,et,zt,tt⟩:=Zjy (f:=f) (b:=b) (fun h9=>hne (.inr h9)) rfl ts;rw [et] at h;simp only [Option.some.injEq,Prod.mk.injEq] at h;obtain ⟨rfl,rfl⟩:=h
    have a8:at8 ⟨(o1++[UInt8.ofNat ((s:Int)*16+(t:Int)).toNat]).toArray⟩ k=16*s+t:=by
     unfold at8;simp only;rw [List.getElem?_append_right (by omega),l1,Nat.sub_self];simp;omega
    refine ⟨bs++cw f s++cw f t,by simp [l1],rfl,zt,?_,tt⟩
    rw [wrK,ZrI (t:=⟨o1.toArray⟩) k (fun i hi=>by
     unfold at8;simp only
     rw [List.getElem?_append_left (by omega)]),e1]
    simp only;rw [a8,show (16*s+t) / 16=s by omega,show (16*s+t) % 16=t by omega,if_neg (by omega)]
theorem ZgT (x:Nat) (hx:x<256):x=x / 2 ^ 7 % 2*128+x / 2 ^ 6 % 2*64+x / 2 ^ 5 % 2*32+x / 2 ^ 4 % 2*16+x / 2 ^ 3 % 2*8+x / 2 ^ 2 % 2*4+x / 2 ^ 1 % 2*2+x / 2 ^ 0 % 2:=by
 simp only [Nat.reducePow];omega
theorem ZaH (b:ByteArray) (j r:Nat) (hr:r<8):ZH b (8*j+r)=at8 b j / 2 ^ (7 - r) % 2:=by
 rw [ZH,show (8*j+r) / 8=j by omega,show (8*j+r) % 8=r by omega]
theorem ZsO {b:ByteArray} {bs:List Bool} {j:Nat} (h:∀ r,r<8->ZH b (8*j+r)=bq bs (8*j+r)):at8 b j=byt bs j:=by
 rw [ZgT _ (ZaC b j),byt,<-h 1 (by omega),<-h 2 (by omega),<-h 3 (by omega),<-h 4 (by omega),<-h 5 (by omega),<-h 6 (by omega),<-h 7 (by omega)];have h0:=h 0 (by omega);rw [Nat.add_zero] at h0;rw [<-h0];rw [ZaH b j 1 (by omega),ZaH b j 2 (by omega),ZaH b j 3 (by omega),ZaH b j 4 (by omega),ZaH b j 5 (by omega),ZaH b j 6 (by omega),ZaH b j 7 (by omega)];have:=ZaH b j 0 (by omega);rw [Nat.add_zero] at this;rw [this]
theorem ZjP {b:ByteArray} {bs:List Bool} {a:Nat} (hl:bs.length=a) (hb:∀ i,i<a->ZH b i=bq bs i) (he:end_ b a=true):b=⟨(pk bs).toArray⟩:=by
 rw [end_,Bool.and_eq_true,decide_eq_true_eq,Bool.or_eq_true,decide_eq_true_eq,decide_eq_true_eq] at he;obtain ⟨hsz,hz⟩:=he
 have zero:∀ i,a<=i->i<8*b.size->ZH b i=bq bs i:=by
  intro i h1 h2;rw [ZaU bs (by omega)]
  have hz1:at8 b (a / 8)*2 ^ (a % 8) % 256=0:=by
   rcases hz with h | h
   ·omega
   ·exact h
  have hj:i / 8=a / 8:=by omega
  rw [ZH,hj];have hx:=ZaC b (a / 8);have hr:a % 8<=i % 8:=by omega
  have hr2:i % 8<8:=by omega
  generalize at8 b (a / 8)=x at *;generalize a % 8=r at *;generalize i % 8=q at *;obtain rfl | rfl | rfl | rfl | rfl | rfl | rfl | rfl:r=0\/r=1\/r=2\/r=3\/r=4\/r=5\/r=6\/r=7:=by omega
  all_goals
   obtain rfl | rfl | rfl | rfl | rfl | rfl | rfl | rfl:q=0\/q=1\/q=2\/q=3\/q=4\/q=5\/q=6\/q=7:=by omega
   all_goals
    simp only [Nat.reduceSub,Nat.reducePow] at *;omega
 have all:∀ j,j<b.size->at8 b j=byt bs j:=fun j hj=>ZsO (fun r hr=>by
  by_cases h:8*j+r<a
  ·exact hb _ h
  ·exact zero _ (by omega) (by omega))
 have hll:b.data.toList=pk bs:=by
  apply List.ext_getElem?;intro i;by_cases hi:i<b.size
  ·rw [Zkj bs (by omega),<-all i hi,ZqB,List.getElem?_eq_getElem (by rw [Zf];exact hi)];rfl
  ·rw [List.getElem?_eq_none (by rw [Zf];omega),List.getElem?_eq_none (by rw [ZbY];omega)]
 cases b with
 | mk d =>
  simp only at hll;rw [<-hll]
theorem Zth {f:Nat->Int} {b:ByteArray} {n:Int} (h:(rd f b n).2=0):wrt f (rd f b n).1=(b,0)/\((rd f b n).1.size:Int)=n:=by
 have hc:chk f=0:=by
  by_cases e:chk f=0
  ·exact e
  ·rw [rd,if_pos e] at h;exact absurd h e
 have hn:¬ (n<0\/1024<n):=by
  intro e;rw [rd,if_neg (fun h=>h hc),if_pos e] at h;simp at h
 cases hq:rdK f b n.toNat with
 | none=>rw [ZaS hc hn hq] at h;simp at h
 | some x =>
  obtain ⟨o,a⟩:=x;have e:=Zbl hc hn hq;by_cases he:end_ b a=true
  ·rw [if_pos he] at e;obtain ⟨bs,l1,l2,l3,e1,e2⟩:=ZfJ _ o a hq;rw [e]
   have hso:(⟨o.toArray⟩:ByteArray).size=n.toNat:=by
    show o.toArray.size=_;simp [l1]
   refine ⟨?_,by simp only;rw [hso];omega⟩;simp only;rw [wrt,if_neg (fun h=>h hc),if_neg (by omega),hso,e1];simp only;rw [<-ZjP l2 e2 he]
  ·rw [if_neg he] at e;rw [e] at h;simp at h
end Go.Proofs.YtbjbjbpgmojcbacGreat.Cd
