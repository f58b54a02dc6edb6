/- A part of the proof: what it leans on. -/
import Derived.Deep.DeepCutAuto
import Derived.Test.YtbjbjbpgmojcbabGreatLsBook04
set_option maxRecDepth 4000
set_option maxHeartbeats 2000000
namespace Go.Proofs.YtbjbjbpgmojcbabGreat
open Go.RowKit
def Cd.end_ (b:ByteArray) (a:Nat):Bool:=decide (b.size=(a+7) / 8) && (decide (a % 8=0) || decide (Cd.at8 b (a / 8)*2 ^ (a % 8) % 256=0))
theorem Zne (gr:Nat) (f ws:Nat->Int) (b:ByteArray) (a:Nat) (w:World) (hB:RdAt w gr f ws b a) (hs:b.size<=140737488355328) (ha:a<=8*b.size) :
 Calls Tryz.prog 210 #[.pointer (some ⟨gr,0,none⟩)] w fun e w'=>e=.returned (.bool (Cd.end_ b a))/\Below w.heap.size w w':=by
 have hs':(b.size:Int)<=140737488355328:=by omega
 have hab:a<=1125899906842624:=by omega
 have hab':(a:Int)<=1125899906842624:=by omega
 have c32:=hB.b;have c33:=hB.at_;have e7:((a:Int)+7).tdiv 8=(((a+7) / 8:Nat):Int):=by rw [Int.tdiv_eq_ediv_of_nonneg (by omega)];omega
 have hqb:(a+7) / 8<=1125899906842624:=by omega
 by_cases h1:b.size=(a+7) / 8
 ·have d1:((b.size:Int) != (((a+7) / 8:Nat):Int))=false:=by rw [h1];simp
  have e3:(a:Int).tmod 8=((a % 8:Nat):Int):=by rw [Int.tmod_eq_emod_of_nonneg (by omega)];omega
  by_cases h2:a % 8=0
  ·have hE:Cd.end_ b a=true:=by simp [Cd.end_,h1,h2]
   rw [hE];rw [h2] at e3;have e3':(a:Int).tmod 8=0:=e3;have e9:(a:Int) % 8=0:=by omega
   generalize (a+7) / 8=q at *;clear h2 h1 hE e3;go_enter Tryz.func210,Tryz.ntmps210
   go_wp2_with fail
   go_quiet (fail)
   go_wp2_with fail
   go_quiet (fail)
   go_wp2_with fail
   go_ret
   exact ⟨rfl,below_drewN (below_drewN (bR _ _) _) _⟩
  ·obtain ⟨q,hq⟩:∃ q,a / 8=q:=⟨_,rfl⟩
   obtain ⟨r,hr⟩:∃ r,a % 8=r:=⟨_,rfl⟩
   have hql:q<b.size:=by omega
   have hA8:Cd.at8 b q=b[q].toNat:=by unfold Cd.at8;rw [Nm.ZN b q hql];rfl
   obtain ⟨x,hx⟩:∃ x:Int,(b[q].toNat:Int)=x:=⟨_,rfl⟩
   have e4:(a:Int).tdiv 8=(q:Int):=by rw [Int.tdiv_eq_ediv_of_nonneg (by omega)];omega
   have e5:(a:Int) % 8=(r:Int):=by omega
   have e6:(a:Int) / 8=(q:Int):=by omega
   rw [hr] at e3;have d2:((r:Int) == 0)=false:=by simp;omega
   have hr8:r<8:=by omega
   have hr0:r ≠ 0:=by omega
   have hE:Cd.end_ b a=(x*2 ^ r % 256 == 0):=by
    have e0:x*2 ^ r % 256=((b[q].toNat*2 ^ r % 256:Nat):Int):=by rw [<-hx];push_cast;rfl
    rw [e0,Cd.end_,hq,hr,hA8];simp only [h1,decide_true,Bool.true_and,hr0,decide_false,Bool.false_or];generalize b[q].toNat*2 ^ r % 256=z;by_cases hz:z=0
    ·subst hz;rfl
    ·have:((z:Int) == 0)=false:=by simp;omega
     rw [this];simp [hz]
   rw [hE];have hx0:0<=x:=by omega
   have hx1:x<=255:=by have:=b[q].toNat_lt;omega
   generalize (a+7) / 8=q9 at *;clear h2 h1 hE hq hr hA8 hr0;go_enter Tryz.func210,Tryz.ntmps210
   go_wp2_with fail
   go_quiet (fail)
   go_wp2_with fail
   go_quiet (fail)
   go_wp2_with fail
   go_ret
   exact ⟨rfl,below_drewN (below_drewN (bR _ _) _) _⟩
 ·have d1:((b.size:Int) != (((a+7) / 8:Nat):Int))=true:=by simp;omega
  have hE:Cd.end_ b a=false:=by simp [Cd.end_,h1]
  rw [hE];generalize (a+7) / 8=q at *;clear h1 hE;go_enter Tryz.func210,Tryz.ntmps210
  go_wp2_with fail
  go_quiet (fail)
  go_wp2_with fail
  go_ret
  exact ⟨rfl,below_drewN (bR _ _) _⟩
end Go.Proofs.YtbjbjbpgmojcbabGreat
namespace Go.Proofs.YtbjbjbpgmojcbabGreat.Cd
theorem ZuC {f ws:Nat->Int} {b:ByteArray}:∀ (m:Nat) (n word:Int) (a:Nat),a<=8*b.size->(sgn f ws b m n word a).2<=8*b.size:=by
 intro m
 induction m with
 | zero=>intro n word a h;exact h
 | succ m ih =>
  intro n word a h;by_cases h0:8*b.size<=a
  ·rw [ZiQ h0];exact h
  ·cases h1:fnd f ws n (2*word+ZI b a) with
   | none=>rw [ZdV h0 h1];exact ih _ _ _ (by omega)
   | some s=>rw [ZdT h0 h1];show a+1<=_;omega
def s15 (f:Nat->Int) (b:ByteArray) (a:Nat):Int × Nat:=sgn f (wds f) b 15 1 0 a
def rdK (f:Nat->Int) (b:ByteArray):Nat->Option (List UInt8 × Nat)
 | 0=>some ([],0)
 | k+1=>match rdK f b k with
  | none=>none
  | some (o,a)=>if (s15 f b a).1=-1\/(s15 f b (s15 f b a).2).1=-1 then none else some (o++[UInt8.ofNat ((s15 f b a).1*16+(s15 f b (s15 f b a).2).1).toNat],(s15 f b (s15 f b a).2).2)
theorem ZpL {f:Nat->Int} {b:ByteArray} {k:Nat} (h:rdK f b k=none):∀ j,rdK f b (k+j)=none:=by
 intro j
 induction j with
 | zero=>exact h
 | succ j ih=>rw [<-Nat.add_assoc,rdK,ih]
theorem Zgy {f:Nat->Int} {b:ByteArray} {k a a1 a2:Nat} {o:List UInt8} {x y:Int} (h:rdK f b k=some (o,a)) (h1:s15 f b a=(x,a1)) (h2:s15 f b a1=(y,a2)) (hx:¬ (x=-1\/y=-1)):rdK f b (k+1)=some (o++[UInt8.ofNat (x*16+y).toNat],a2):=by
 rw [rdK,h];simp only [h1,h2];rw [if_neg hx]
theorem ZfM {f:Nat->Int} {b:ByteArray} {k n a a1 a2:Nat} {o:List UInt8} {x y:Int} (hk:k<n) (h:rdK f b k=some (o,a)) (h1:s15 f b a=(x,a1)) (h2:s15 f b a1=(y,a2)) (hx:x=-1\/y=-1):rdK f b n=none:=by
 have:rdK f b (k+1)=none:=by
  rw [rdK,h];simp only [h1,h2];rw [if_pos hx]
 have h2:=ZpL this (n - (k+1))
 rwa [show k+1+(n - (k+1))=n by omega] at h2
def rd (f:Nat->Int) (b:ByteArray) (n:Int):ByteArray × Int :=
 if chk f ≠ 0 then (⟨#[]⟩,chk f) else if n<0\/1024<n then (⟨#[]⟩,3) else match rdK f b n.toNat with
  | none=>(⟨#[]⟩,1)
  | some (o,a)=>if end_ b a=true then (⟨o.toArray⟩,0) else (⟨#[]⟩,1)
theorem ZaV {f:Nat->Int} {b:ByteArray} {n:Int} (hc:chk f=0) (hn:¬ (n<0\/1024<n)) (h:rdK f b n.toNat=none):rd f b n=(⟨#[]⟩,1):=by
 rw [rd,if_neg (fun h=>h hc),if_neg hn,h]
theorem Zbu {f:Nat->Int} {b:ByteArray} {n:Int} {o:List UInt8} {a:Nat} (hc:chk f=0) (hn:¬ (n<0\/1024<n)) (h:rdK f b n.toNat=some (o,a)):rd f b n=if end_ b a=true then (⟨o.toArray⟩,0) else (⟨#[]⟩,1):=by
 rw [rd,if_neg (fun h=>h hc),if_neg hn,h]
end Go.Proofs.YtbjbjbpgmojcbabGreat.Cd
namespace Go.Proofs.YtbjbjbpgmojcbabGreat.Cd
theorem Zea {f ws:Nat->Int} {b:ByteArray}:∀ (m n:Nat) (word:Int) (a:Nat),1<=n->(sgn f ws b m n word a).1 ≠ -1->∃ s d:Nat,sgn f ws b m n word a=((s:Int),a+d)/\s<16/\f s=((n+d:Nat):Int) - 1/\1<=d/\d<=m/\a+d<=8*b.size/\ws s / 2 ^ d=word/\∀ j,j<d->(ZI b (a+j):Int)=ws s / 2 ^ (d - 1 - j) % 2:=by
 intro m
 induction m with
 | zero=>intro n word a _ h;exact absurd rfl h
 | succ m ih =>
  intro n word a hn h;have hb:=ZdY b a;by_cases h0:8*b.size<=a
  ·rw [ZiQ h0] at h;exact absurd rfl h
  ·cases h1:fnd f ws n (2*word+ZI b a) with
   | none =>
    rw [ZdV h0 h1] at h |-
    have hnn:((n:Int)+1)=((n+1:Nat):Int):=by omega
    rw [hnn] at h |-
    obtain ⟨s,d,e,hs,hf,hd,hm,hz,hw,hj⟩:=ih (n+1) _ (a+1) (by omega) h
    have e1:ws s / 2 ^ (d+1)=word:=by
     rw [Int.pow_succ,<-Int.ediv_ediv_of_nonneg (by have:=pow_pos d;omega),hw];omega
    refine ⟨s,d+1,by rw [e,show a+1+d=a+(d+1) by omega],hs,by omega,by omega,by omega,by omega,e1,fun j hjd=>?_⟩
    cases j with
    | zero=>rw [show d+1 - 1 - 0=d by omega,hw,Nat.add_zero];omega
    | succ j =>
     have:=hj j (by omega);rw [show a+1+j=a+(j+1) by omega] at this;rw [this,show d+1 - 1 - (j+1)=d - 1 - j by omega]
   | some s =>
    rw [ZdT h0 h1]
    have hfi:∀ k,find f ws n (2*word+ZI b a) k=some s->s<k/\f s=n/\ws s=2*word+ZI b a:=by
     intro k
     induction k with
     | zero=>intro h;simp [find] at h
     | succ k ih2 =>
      intro h;rw [find] at h
      cases hq:find f ws n (2*word+ZI b a) k with
      | some t =>
       rw [hq] at h;simp only [Option.some.injEq] at h;subst h;have:=ih2 hq;exact ⟨by omega,this.2⟩
      | none =>
       rw [hq] at h;simp only at h;split at h
       ·rename_i h9
        simp only [Option.some.injEq] at h;subst h;exact ⟨by omega,h9⟩
       ·simp at h
    obtain ⟨q1,q2,q3⟩:=hfi 16 h1;refine ⟨s,1,rfl,q1,by omega,by omega,by omega,by omega,by rw [q3];simp;omega,fun j hj=>?_⟩;obtain rfl:j=0:=by omega
    rw [q3];simp;omega
theorem ZtM {f ws:Nat->Int} {n word:Int} {s:Nat} (h1:f s=n) (h2:ws s=word) (hu:∀ i,i<16->f i=n->ws i=word->i=s):∀ k,k<=16->find f ws n word k=if s<k then some s else none:=by
 intro k
 induction k with
 | zero=>intro _;rfl
 | succ k ih =>
  intro hk;rw [find,ih (by omega)];by_cases h:s<k
  ·rw [if_pos h];simp only;rw [if_pos (by omega)]
  ·rw [if_neg h];simp only;by_cases e:s=k
   ·subst e;rw [if_pos ⟨h1,h2⟩,if_pos (by omega)]
   ·rw [if_neg (fun h9=>e (hu k (by omega) h9.1 h9.2).symm),if_neg (by omega)]
theorem ZtL {f ws:Nat->Int} {n word:Int} (hu:∀ i,i<16->f i=n->ws i ≠ word):∀ k,k<=16->find f ws n word k=none:=by
 intro k
 induction k with
 | zero=>intro _;rfl
 | succ k ih =>
  intro hk;exact ZhP (ih (by omega)) (fun h=>hu k (by omega) h.1 h.2)
theorem ZgM {f ws:Nat->Int} {b:ByteArray} {s:Nat} (hs:s<16) {N:Nat} (hN:f s=(N:Int))
 (hu:∀ i,i<16->f i=f s->ws i=ws s->i=s) (hp:∀ n:Nat,1<=n->n<N->∀ i,i<16->f i=(n:Int)->ws i ≠ ws s / 2 ^ (N - n)) :
 ∀ (d m n:Nat) (word:Int) (a:Nat),1<=n->n+d=N+1->1<=d->d<=m->a+d<=8*b.size->ws s / 2 ^ d=word->(∀ j,j<d->(ZI b (a+j):Int)=ws s / 2 ^ (d - 1 - j) % 2)->sgn f ws b m n word a=((s:Int),a+d):=by
 intro d
 induction d with
 | zero=>intro m n word a _ _ h;omega
 | succ d ih =>
  intro m n word a hn1 hn _ hm hb hw hj
  obtain ⟨m,rfl⟩:∃ j,m=j+1:=⟨m - 1,by omega⟩
  have hb0:=hj 0 (by omega);rw [Nat.add_zero,show d+1 - 1 - 0=d by omega] at hb0
  have hw1:2*word+(ZI b a:Int)=ws s / 2 ^ d:=by
   rw [Int.pow_succ,<-Int.ediv_ediv_of_nonneg (by have:=pow_pos d;omega)] at hw;omega
  by_cases h0:d=0
  ·subst h0;rw [Int.pow_zero,Int.ediv_one] at hw1;obtain rfl:n=N:=by omega
   refine ZdT (by omega) ?_;rw [hw1,fnd,ZtM hN rfl (fun i hi h1 h2=>hu i hi (by rw [h1,hN]) h2) 16 (nl _),if_pos hs]
  ·rw [ZdV (by omega) (by rw [hw1,fnd];exact ZtL (fun i hi h1=>by have:=hp n hn1 (by omega) i hi h1;rwa [show N - n=d by omega] at this) 16 (nl _)),hw1,show ((n:Int)+1)=((n+1:Nat):Int) by omega]
   rw [ih m (n+1) _ (a+1) (by omega) (by omega) (by omega) (by omega) (by omega) rfl (fun j hjd=>by
    have:=hj (j+1) (by omega);rw [show a+(j+1)=a+1+j by omega,show d+1 - 1 - (j+1)=d - 1 - j by omega] at this
    exact this),show a+1+d=a+(d+1) by omega]
theorem Zsw (f:Nat->Int) (n:Int) (x:Int × (Nat->Int)):∀ k,(∀ i,¬ (i<k/\f i=n)->(wI f n x k).2 i=x.2 i)/\(∀ i,i<k->f i=n->x.1<=(wI f n x k).2 i/\(wI f n x k).2 i<(wI f n x k).1)/\(∀ i j,i<j->j<k->f i=n->f j=n->(wI f n x k).2 i<(wI f n x k).2 j):=by
 intro k
 induction k with
 | zero=>exact ⟨fun i _=>rfl,fun i h=>by omega,fun i j _ h=>by omega⟩
 | succ k ih =>
  obtain ⟨i1,i2,i3⟩:=ih;have hb:=wI_b f n x k;rw [wI];by_cases h:f k=n
  ·rw [if_pos h];simp only;refine ⟨fun i hi=>?_,fun i hi hf=>?_,fun i j hij hj hf hg=>?_⟩
   ·have e:i ≠ k:=fun e=>hi ⟨by omega,by rw [e];exact h⟩
    rw [Zg _ _ e];exact i1 i (fun h9=>hi ⟨by omega,h9.2⟩)
   ·by_cases e:i=k
    ·subst e;rw [ZD];omega
    ·rw [Zg _ _ e];have:=i2 i (by omega) hf;omega
   ·rw [Zg _ _ (by omega)];by_cases e:j=k
    ·subst e;rw [ZD];have:=i2 i (by omega) hf;omega
    ·rw [Zg _ _ e];exact i3 i j hij (by omega) hf hg
  ·rw [if_neg h];refine ⟨fun i hi=>i1 i (fun h9=>hi ⟨by omega,h9.2⟩),fun i hi hf=>?_,fun i j hij hj hf hg=>?_⟩
   ·have e:i ≠ k:=fun e=>h (by rw [<-e];exact hf)
    exact i2 i (by omega) hf
   ·have e:j ≠ k:=fun e=>h (by rw [<-e];exact hg)
    exact i3 i j hij (by omega) hf hg
theorem ZrO (f:Nat->Int) (n:Nat):(wO f n).1*2<=(wO f (n+1)).1:=by
 rw [wO];exact (wI_b f _ _ 16).1
theorem Ztd (f:Nat->Int) (n:Nat):∀ j,(wO f n).1*2 ^ j<=(wO f (n+j)).1:=by
 intro j
 induction j with
 | zero=>simp
 | succ j ih =>
  have:=ZrO f (n+j);rw [<-Nat.add_assoc,Int.pow_succ,<-Int.mul_assoc];omega
theorem ZfZ (f:Nat->Int) (i:Nat) (n:Nat) (hf:f i=((n+1:Nat):Int)):∀ j,(wO f (n+1+j)).2 i=(wO f (n+1)).2 i:=by
 intro j
 induction j with
 | zero=>rfl
 | succ j ih =>
  rw [<-Nat.add_assoc,wO,(Zsw f _ _ 16).1 i (fun h=>by omega)];exact ih
theorem Zmc {f:Nat->Int} {i n:Nat} (hi:i<16) (hn:n+1<=15) (hf:f i=((n+1:Nat):Int)):(wO f n).1*2<=wds f i/\wds f i<(wO f (n+1)).1:=by
 have h:=ZfZ f i n hf (15 - (n+1));rw [show n+1+(15 - (n+1))=15 by omega] at h;rw [wds,h,wO];exact (Zsw f _ _ 16).2.1 i hi hf
theorem Zoj {f:Nat->Int} {i j n:Nat} (hi:i<16) (hj:j<16) (hn:n+1<=15) (hf:f i=((n+1:Nat):Int)) (hg:f j=((n+1:Nat):Int)) (h:wds f i=wds f j):i=j:=by
 have h1:=ZfZ f i n hf (15 - (n+1));have h2:=ZfZ f j n hg (15 - (n+1));rw [show n+1+(15 - (n+1))=15 by omega] at h1 h2;rw [wds,h1,h2,wO] at h;have h3:=(Zsw f (n+1:Nat) ((wO f n).1*2,(wO f n).2) 16).2.2;rcases Nat.lt_trichotomy i j with h4 | h4 | h4
 ·have:=h3 i j h4 hj hf hg;omega
 ·exact h4
 ·have:=h3 j i h4 hi hg hf;omega
theorem Zjf {f:Nat->Int} {s N:Nat} (hs:s<16) (hN:f s=(N:Int)) (hN1:1<=N) (hN2:N<=15):∀ n:Nat,1<=n->n<N->∀ i,i<16->f i=(n:Int)->wds f i ≠ wds f s / 2 ^ (N - n):=by
 intro n hn1 hn i hi hf h
 obtain ⟨n,rfl⟩:∃ j,n=j+1:=⟨n - 1,by omega⟩
 obtain ⟨N,rfl⟩:∃ j,N=j+1:=⟨N - 1,by omega⟩
 have h1:=(Zmc hi (by omega) hf).2;have h2:=(Zmc hs (by omega) hN).1;have h3:=Ztd f (n+1) (N - (n+1));rw [show n+1+(N - (n+1))=N by omega] at h3;have hp:=pow_pos (N+1 - (n+1))
 have h4:(wO f (n+1)).1*2 ^ (N+1 - (n+1))<=wds f s:=by
  rw [show N+1 - (n+1)=(N - (n+1))+1 by omega,Int.pow_succ,<-Int.mul_assoc];omega
 have h5:(wO f (n+1)).1<=wds f s / 2 ^ (N+1 - (n+1)):=(Int.le_ediv_iff_mul_le (by omega)).2 h4;omega
theorem Zuh (f:Nat->Int) (n:Int) (x:Int × (Nat->Int)) (c:Int):∀ k,((wI f n x k).1 - x.1)*c=tot (fun i=>if f i=n then c else 0) k:=by
 intro k
 induction k with
 | zero=>simp [wI,tot]
 | succ k ih =>
  rw [wI,tot];by_cases h:f k=n
  ·rw [if_pos h,if_pos h,<-ih];simp only;rw [Int.sub_mul,Int.sub_mul,Int.add_mul];omega
  ·rw [if_neg h,if_neg h,ih];omega
theorem ZrU {g h:Nat->Int}:∀ k,tot (fun i=>g i+h i) k=tot g k+tot h k:=by
 intro k
 induction k with
 | zero=>rfl
 | succ k ih=>rw [tot,tot,tot,ih];omega
theorem Zjz {g h:Nat->Int}:∀ k,(∀ i,i<k->g i=h i)->tot g k=tot h k:=by
 intro k
 induction k with
 | zero=>intro _;rfl
 | succ k ih=>intro e;rw [tot,tot,ih (fun i hi=>e i (by omega)),e k (by omega)]
theorem Zqj {g h:Nat->Int}:∀ k,(∀ i,i<k->g i<=h i)->tot g k<=tot h k:=by
 intro k
 induction k with
 | zero=>intro _;exact Int.le_refl _
 | succ k ih=>intro e;rw [tot,tot];have:=e k (by omega);have:=ih (fun i hi=>e i (by omega));omega
theorem Zvi (f:Nat->Int):∀ k,sm f k=tot (fun i=>wt (f i)) k:=by
 intro k
 induction k with
 | zero=>rfl
 | succ k ih=>rw [sm,tot,ih]
theorem Zuz (f:Nat->Int) (hr:InR f 15 16):∀ n,n<=15->(wO f n).1*2 ^ (15 - n)=tot (fun i=>if f i<=(n:Int) then wt (f i) else 0) 16:=by
 intro n
 induction n with
 | zero =>
  intro _
  rw [Zjz (h:=fun _=>0) 16 (fun i hi=>by
   have:=hr i hi;by_cases h:f i<=((0:Nat):Int)
   ·rw [if_pos h,Zdn (by omega)]
   ·rw [if_neg h])]
  simp [wO,tot]
 | succ n ih =>
  intro hn;have h1:=ih (by omega);have h2:=Zuh f (n+1:Nat) ((wO f n).1*2,(wO f n).2) (2 ^ (15 - (n+1))) 16
  have h3:tot (fun i=>if f i<=((n+1:Nat):Int) then wt (f i) else 0) 16=tot (fun i=>(if f i<=(n:Int) then wt (f i) else 0)+(if f i=((n+1:Nat):Int) then 2 ^ (15 - (n+1)) else 0)) 16:=Zjz 16 (fun i hi=>by
   by_cases e1:f i<=(n:Int)
   ·rw [if_pos (by omega),if_pos e1,if_neg (by omega)];omega
   ·by_cases e2:f i=((n+1:Nat):Int)
    ·rw [if_pos (by omega),if_neg e1,if_pos e2,e2,Zfo (by omega),show (15 - ((n+1:Nat):Int)).toNat=15 - (n+1) by omega];omega
    ·rw [if_neg (by omega),if_neg e1,if_neg e2];omega)
  have e9:wI f (n+1:Nat) ((wO f n).1*2,(wO f n).2) 16=wO f (n+1):=rfl;rw [e9] at h2;rw [h3,ZrU,<-h1,<-h2,Int.sub_mul,show 15 - n=(15 - (n+1))+1 by omega,Int.pow_succ,Int.mul_assoc,Int.mul_comm 2 (2 ^ (15 - (n+1)))];omega
theorem ZrJ {f:Nat->Int} (h:chk f=0) {s N:Nat} (hs:s<16) (hN:f s=(N:Int)) (hN1:1<=N) (hN2:N<=15):wds f s<2 ^ N:=by
 obtain ⟨h1,_,h3⟩:=Zd h
 obtain ⟨N,rfl⟩:∃ j,N=j+1:=⟨N - 1,by omega⟩
 have h2:=(Zmc hs (by omega) hN).2;have h4:=Zuz f h1 (N+1) hN2
 have h5:tot (fun i=>if f i<=((N+1:Nat):Int) then wt (f i) else 0) 16<=tot (fun i=>wt (f i)) 16:=Zqj 16 (fun i hi=>by
  have:=h1 i hi;by_cases e:f i<=((N+1:Nat):Int)
  ·rw [if_pos e];exact Int.le_refl _
  ·rw [if_neg e];exact (wt_b this.1 this.2).1)
 rw [<-Zvi] at h5;have h6:(32768:Int)=2 ^ (N+1)*2 ^ (15 - (N+1)):=by rw [<-Int.pow_add,show N+1+(15 - (N+1))=15 by omega];rfl
 have hp:=pow_pos (15 - (N+1));have h7:(wO f (N+1)).1*2 ^ (15 - (N+1))<=2 ^ (N+1)*2 ^ (15 - (N+1)):=by omega
 have h8:=Int.le_of_mul_le_mul_right h7 (by omega);omega
theorem Zvq (word:Int):∀ k j,j<k->(wb word k).getD j false=decide (word / 2 ^ (k - 1 - j) % 2=1):=by
 intro k
 induction k with
 | zero=>intro j h;omega
 | succ k ih =>
  intro j hj
  cases j with
  | zero=>rw [wb];rfl
  | succ j =>
   rw [wb];have:=ih j (by omega);rw [List.getD_cons_succ,this,show k+1 - 1 - (j+1)=k - 1 - j by omega]
theorem Zuf (word:Int) (k:Nat):(bv (decide (word / 2 ^ k % 2=1)):Int)=word / 2 ^ k % 2:=by
 unfold bv;by_cases h:word / 2 ^ k % 2=1
 ·simp [h]
 ·have:word / 2 ^ k % 2=0:=by omega
  simp [this]
theorem ZiX {xs ys:List Bool} {i:Nat} (h:i<xs.length):bq (xs++ys) i=bq xs i:=by
 simp [bq,List.getD_eq_getElem?_getD,List.getElem?_append_left h]
theorem ZfN {xs ys:List Bool} {i:Nat}:bq (xs++ys) (xs.length+i)=bq ys i:=by
 simp [bq,List.getD_eq_getElem?_getD,List.getElem?_append_right]
theorem Zpn (word:Int) {k j:Nat} (h:j<k):(bq (wb word k) j:Int)=word / 2 ^ (k - 1 - j) % 2:=by
 rw [bq,Zvq word k j h,Zuf]
theorem ZrA (bs:List Bool) {j:Nat} (h:j<(bs.length+7) / 8):at8 ⟨(pk bs).toArray⟩ j=byt bs j:=by
 unfold at8;simp only;rw [ZkK bs h];have:=Zrt bs j;simp;omega
theorem ZkU (bs:List Bool) (j r:Nat) (hr:r<8):byt bs j / 2 ^ (7 - r) % 2=bq bs (8*j+r):=by
 have h0:=ZaI bs (8*j);have h1:=ZaI bs (8*j+1);have h2:=ZaI bs (8*j+2);have h3:=ZaI bs (8*j+3);have h4:=ZaI bs (8*j+4);have h5:=ZaI bs (8*j+5);have h6:=ZaI bs (8*j+6);have h7:=ZaI bs (8*j+7);unfold byt;obtain rfl | rfl | rfl | rfl | rfl | rfl | rfl | rfl:r=0\/r=1\/r=2\/r=3\/r=4\/r=5\/r=6\/r=7:=by omega
 all_goals
  simp only [Nat.add_zero,Nat.reduceSub,Nat.reducePow];omega
theorem Zuj (bs:List Bool) {i:Nat} (h:i<8*((bs.length+7) / 8)):ZI ⟨(pk bs).toArray⟩ i=bq bs i:=by
 rw [ZI,ZrA bs (by omega),ZkU bs _ _ (by omega),show 8*(i / 8)+i % 8=i by omega]
theorem Zex (bs:List Bool):(⟨(pk bs).toArray⟩:ByteArray).size=(bs.length+7) / 8:=by
 show (pk bs).toArray.size=_;simp [ZbY]
theorem ZqW (bs:List Bool):end_ ⟨(pk bs).toArray⟩ bs.length=true:=by
 rw [end_,Zex];by_cases h:bs.length % 8=0
 ·simp [h]
 ·rw [ZrA bs (by omega)];have hn:bs.length=8*(bs.length / 8)+bs.length % 8:=by omega
  have hm:=(Ziv bs false (bs.length / 8) (bs.length % 8) (by omega) hn).2;have hr:bs.length % 8<8:=by omega
  generalize bs.length % 8=r at *;generalize byt bs (bs.length / 8)=x at *
  have:x*2 ^ r % 256=0:=by
   obtain rfl | rfl | rfl | rfl | rfl | rfl | rfl | rfl:r=0\/r=1\/r=2\/r=3\/r=4\/r=5\/r=6\/r=7:=by omega
   all_goals
    simp only [Nat.reduceSub,Nat.reducePow] at hm |-
    omega
  simp [this]
theorem Zhe {f:Nat->Int} (h:chk f=0) {s:Nat} (hs:s<16) (h0:f s ≠ 0) (pre post:List Bool):s15 f ⟨(pk (pre++cw f s++post)).toArray⟩ pre.length=((s:Int),(pre++cw f s).length):=by
 obtain ⟨h1,_,_⟩:=Zd h;have h2:=h1 s hs
 obtain ⟨N,hN⟩:∃ N:Nat,f s=(N:Int):=⟨(f s).toNat,by omega⟩
 have hl:(cw f s).length=N:=by rw [cw,ZdB,hN];rfl
 have hlt:=ZrJ h hs hN (by omega) (by omega);have h9:=Zom f s;rw [s15,List.length_append,hl];refine ZgM hs hN (fun i hi e1 e2=>?_) (fun n hn1 hn i hi e1=>Zjf hs hN (by omega) (by omega) n hn1 hn i hi e1) N 15 1 0 _ (by omega) (by omega) (by omega) (by omega) ?_ (Int.ediv_eq_zero_of_lt h9.1 hlt) (fun j hj=>?_)
 ·exact Zoj (n:=N - 1) hi hs (by omega) (by omega) (by omega) e2
 ·rw [Zex];simp only [List.length_append,hl];omega
 ·rw [Zuj _ (by simp only [List.length_append,hl];omega),ZiX (by simp only [List.length_append,hl];omega),ZfN,cw,hN];exact Zpn _ hj
theorem ZrZ {f:Nat->Int} {s t:ByteArray}:∀ k,(∀ i,i<k->at8 s i=at8 t i)->wrK f s k=wrK f t k:=by
 intro k
 induction k with
 | zero=>intro _;rfl
 | succ k ih=>intro h;rw [wrK,wrK,ih (fun i hi=>h i (by omega)),h k (by omega)]
theorem Zst {f:Nat->Int} {s:ByteArray} {k:Nat}:∀ j bs,wrK f s (k+j)=some bs->∃ b1 b2,wrK f s k=some b1/\bs=b1++b2:=by
 intro j
 induction j with
 | zero=>intro bs h;exact ⟨bs,[],h,by simp⟩
 | succ j ih =>
  intro bs h;rw [<-Nat.add_assoc,wrK] at h
  cases hq:wrK f s (k+j) with
  | none=>rw [hq] at h;simp at h
  | some b3 =>
   rw [hq] at h;simp only at h;split at h
   ·simp at h
   ·simp only [Option.some.injEq] at h;obtain ⟨b1,b2,e1,e2⟩:=ih b3 hq;exact ⟨b1,b2++cw f (at8 s (k+j) / 16)++cw f (at8 s (k+j) % 16),e1,by rw [<-h,e2];simp⟩
theorem ZrH (s:ByteArray) (k:Nat):UInt8.ofNat (at8 s k)=s.data.toList[k]?.getD 0:=by
 unfold at8;exact UInt8.ofNat_toNat ..
theorem Zf (s:ByteArray):s.data.toList.length=s.size:=by cases s;simp only [Array.length_toList];rfl
theorem Zsi {f:Nat->Int} (h:chk f=0) {s:ByteArray} {bs:List Bool} (hw:wrK f s s.size=some bs):∀ k,k<=s.size->∃ b1 b2,wrK f s k=some b1/\bs=b1++b2/\rdK f ⟨(pk bs).toArray⟩ k=some (s.data.toList.take k,b1.length):=by
 intro k
 induction k with
 | zero=>intro _;exact ⟨[],bs,rfl,rfl,by simp [rdK]⟩
 | succ k ih =>
  intro hk;obtain ⟨b1,b2,e1,e2,e3⟩:=ih (by omega);obtain ⟨c1,c2,g1,g2⟩:=Zst (k:=k+1) (s.size - (k+1)) bs (by rw [show k+1+(s.size - (k+1))=s.size by omega];exact hw);have g1':=g1;rw [wrK,e1] at g1;simp only at g1;split at g1
  ·simp at g1
  ·rename_i hz
   simp only [Option.some.injEq] at g1;have hl8:=ZaC s k;have r1:=Zhe h (s:=at8 s k / 16) (by omega) (fun e=>hz (.inl e)) b1 (cw f (at8 s k % 16)++c2);have r2:=Zhe h (s:=at8 s k % 16) (by omega) (fun e=>hz (.inr e)) (b1++cw f (at8 s k / 16)) c2;have eb:bs=b1++cw f (at8 s k / 16)++(cw f (at8 s k % 16)++c2):=by rw [g2,<-g1];simp
   have eb2:bs=b1++cw f (at8 s k / 16)++cw f (at8 s k % 16)++c2:=by rw [g2,<-g1]
   rw [<-eb] at r1;rw [<-eb2] at r2;refine ⟨c1,c2,g1',g2,?_⟩;rw [Zgy e3 r1 r2 (by omega),<-g1];have e16:(((at8 s k / 16:Nat):Int)*16+((at8 s k % 16:Nat):Int)).toNat=at8 s k:=by omega
   rw [e16,ZrH,List.take_add_one];have hkl:k<s.data.toList.length:=by rw [Zf];omega
   rw [List.getElem?_eq_getElem hkl];rfl
theorem ZuB {f:Nat->Int} {s:ByteArray} (h:(wrt f s).2=0):rd f (wrt f s).1 (s.size:Nat)=(s,0):=by
 have hc:chk f=0:=by
  by_cases e:chk f=0
  ·exact e
  ·rw [wrt,if_pos e] at h;exact absurd h e
 have hs:¬ 1024<s.size:=by
  intro e;rw [wrt,if_neg (fun h=>h hc),if_pos e] at h;exact absurd h (by decide)
 cases hq:wrK f s s.size with
 | none=>rw [wrt,if_neg (fun h=>h hc),if_neg hs,hq] at h;exact absurd h (by decide)
 | some bs =>
  have e:(wrt f s).1=⟨(pk bs).toArray⟩:=by rw [wrt,if_neg (fun h=>h hc),if_neg hs,hq]
  obtain ⟨b1,b2,e1,e2,e3⟩:=Zsi hc hq s.size (nl _);rw [hq] at e1;simp only [Option.some.injEq] at e1;subst e1;rw [e,rd,if_neg (fun h=>h hc),if_neg (by omega),Int.toNat_natCast,e3];simp only;rw [if_pos (ZqW bs),List.take_of_length_le (by rw [Zf];exact nl _)]
theorem Zur {word:Int} {N:Nat} {bs:List Bool} {b:ByteArray} {a:Nat} (h:∀ j,j<N->(ZI b (a+j):Int)=word / 2 ^ (N - 1 - j) % 2) (hl:bs.length=a) (hb:∀ i,i<a->ZI b i=bq bs i):∀ i,i<a+N->ZI b i=bq (bs++wb word N) i:=by
 intro i hi;by_cases h1:i<a
 ·rw [ZiX (by omega)];exact hb i h1
 ·obtain ⟨j,rfl⟩:∃ j,i=a+j:=⟨i - a,by omega⟩
  have h2:=h j (by omega);rw [<-Zpn word (by omega:j<N)] at h2;have h3:bq (bs++wb word N) (bs.length+j)=bq (wb word N) j:=ZfN;rw [hl] at h3;omega
theorem Zkv {f:Nat->Int} {b:ByteArray} {a:Nat} (h:(s15 f b a).1 ≠ -1) {bs:List Bool} (hl:bs.length=a) (hb:∀ i,i<a->ZI b i=bq bs i) :
 ∃ s:Nat,s<16/\f s ≠ 0/\s15 f b a=((s:Int),(bs++cw f s).length)/\(bs++cw f s).length<=8*b.size/\∀ i,i<(bs++cw f s).length->ZI b i=bq (bs++cw f s) i:=by
 obtain ⟨s,d,e,hs,hf,hd,hm,hz,hw,hj⟩:=Zea 15 1 0 a (nl _) h;have hfd:f s=(d:Int):=by omega
 have ec:cw f s=wb (wds f s) d:=by rw [cw,hfd];rfl
 have el:(bs++cw f s).length=a+d:=by rw [List.length_append,ec,ZdB,hl]
 refine ⟨s,hs,by omega,by rw [el];exact e,by rw [el];exact hz,?_⟩;rw [el,ec];exact Zur hj hl hb
theorem ZfQ {f:Nat->Int} {b:ByteArray}:∀ k o a,rdK f b k=some (o,a)->∃ bs,o.length=k/\bs.length=a/\a<=8*b.size/\wrK f ⟨o.toArray⟩ k=some bs/\∀ i,i<a->ZI b i=bq bs i:=by
 intro k
 induction k with
 | zero =>
  intro o a h;simp only [rdK,Option.some.injEq,Prod.mk.injEq] at h;obtain ⟨rfl,rfl⟩:=h;exact ⟨[],rfl,rfl,by omega,rfl,fun i h=>by omega⟩
 | succ k ih =>
  intro o a h;rw [rdK] at h
  cases hq:rdK f b k with
  | none=>rw [hq] at h;simp at h
  | some x =>
   obtain ⟨o1,a1⟩:=x;rw [hq] at h;simp only at h;split at h
   ·simp at h
   ·rename_i hne
    obtain ⟨bs,l1,l2,l3,e1,e2⟩:=ih o1 a1 hq;obtain ⟨s,hs,fs,es,zs,ts⟩:=Zkv (f:=f) (b:=b) (fun h9=>hne (.inl h9)) l2 e2;rw [es] at h hne;simp only at h hne;obtain ⟨t,ht,ft,et,zt,tt⟩:=Zkv (f:=f) (b:=b) (fun h9=>hne (.inr h9)) rfl ts;rw [et] at h;simp only [Option.some.injEq,Prod.mk.injEq] at h;obtain ⟨rfl,rfl⟩:=h
    have a8:at8 ⟨(o1++[UInt8.ofNat ((s:Int)*16+(t:Int)).toNat]).toArray⟩ k=16*s+t:=by
     unfold at8;simp only;rw [List.getElem?_append_right (by omega),l1,Nat.sub_self];simp;omega
    refine ⟨bs++cw f s++cw f t,by simp [l1],rfl,zt,?_,tt⟩
    rw [wrK,ZrZ (t:=⟨o1.toArray⟩) k (fun i hi=>by
     unfold at8;simp only
     rw [List.getElem?_append_left (by omega)]),e1]
    simp only;rw [a8,show (16*s+t) / 16=s by omega,show (16*s+t) % 16=t by omega,if_neg (by omega)]
theorem ZgZ (x:Nat) (hx:x<256):x=x / 2 ^ 7 % 2*128+x / 2 ^ 6 % 2*64+x / 2 ^ 5 % 2*32+x / 2 ^ 4 % 2*16+x / 2 ^ 3 % 2*8+x / 2 ^ 2 % 2*4+x / 2 ^ 1 % 2*2+x / 2 ^ 0 % 2:=by
 simp only [Nat.reducePow];omega
theorem ZaL (b:ByteArray) (j r:Nat) (hr:r<8):ZI b (8*j+r)=at8 b j / 2 ^ (7 - r) % 2:=by
 rw [ZI,show (8*j+r) / 8=j by omega,show (8*j+r) % 8=r by omega]
theorem Ztp {b:ByteArray} {bs:List Bool} {j:Nat} (h:∀ r,r<8->ZI b (8*j+r)=bq bs (8*j+r)):at8 b j=byt bs j:=by
 rw [ZgZ _ (ZaC b j),byt,<-h 1 (by omega),<-h 2 (by omega),<-h 3 (by omega),<-h 4 (by omega),<-h 5 (by omega),<-h 6 (by omega),<-h 7 (by omega)];have h0:=h 0 (by omega);rw [Nat.add_zero] at h0;rw [<-h0];rw [ZaL b j 1 (by omega),ZaL b j 2 (by omega),ZaL b j 3 (by omega),ZaL b j 4 (by omega),ZaL b j 5 (by omega),ZaL b j 6 (by omega),ZaL b j 7 (by omega)];have:=ZaL b j 0 (by omega);rw [Nat.add_zero] at this;rw [this]
theorem ZjI {b:ByteArray} {bs:List Bool} {a:Nat} (hl:bs.length=a) (hb:∀ i,i<a->ZI b i=bq bs i) (he:end_ b a=true):b=⟨(pk bs).toArray⟩:=by
 rw [end_,Bool.and_eq_true,decide_eq_true_eq,Bool.or_eq_true,decide_eq_true_eq,decide_eq_true_eq] at he;obtain ⟨hsz,hz⟩:=he
 have zero:∀ i,a<=i->i<8*b.size->ZI b i=bq bs i:=by
  intro i h1 h2;rw [Zba bs (by omega)]
  have hz1:at8 b (a / 8)*2 ^ (a % 8) % 256=0:=by
   rcases hz with h | h
   ·omega
   ·exact h
  have hj:i / 8=a / 8:=by omega
  rw [ZI,hj];have hx:=ZaC b (a / 8);have hr:a % 8<=i % 8:=by omega
  have hr2:i % 8<8:=by omega
  generalize at8 b (a / 8)=x at *;generalize a % 8=r at *;generalize i % 8=q at *;obtain rfl | rfl | rfl | rfl | rfl | rfl | rfl | rfl:r=0\/r=1\/r=2\/r=3\/r=4\/r=5\/r=6\/r=7:=by omega
  all_goals
   obtain rfl | rfl | rfl | rfl | rfl | rfl | rfl | rfl:q=0\/q=1\/q=2\/q=3\/q=4\/q=5\/q=6\/q=7:=by omega
   all_goals
    simp only [Nat.reduceSub,Nat.reducePow] at *;omega
 have all:∀ j,j<b.size->at8 b j=byt bs j:=fun j hj=>Ztp (fun r hr=>by
  by_cases h:8*j+r<a
  ·exact hb _ h
  ·exact zero _ (by omega) (by omega))
 have hll:b.data.toList=pk bs:=by
  apply List.ext_getElem?;intro i;by_cases hi:i<b.size
  ·rw [ZkK bs (by omega),<-all i hi,ZrH,List.getElem?_eq_getElem (by rw [Zf];exact hi)];rfl
  ·rw [List.getElem?_eq_none (by rw [Zf];omega),List.getElem?_eq_none (by rw [ZbY];omega)]
 cases b with
 | mk d =>
  simp only at hll;rw [<-hll]
theorem ZqY {f:Nat->Int} {b:ByteArray} {n:Int} (h:(rd f b n).2=0):wrt f (rd f b n).1=(b,0)/\((rd f b n).1.size:Int)=n:=by
 have hc:chk f=0:=by
  by_cases e:chk f=0
  ·exact e
  ·rw [rd,if_pos e] at h;exact absurd h e
 have hn:¬ (n<0\/1024<n):=by
  intro e;rw [rd,if_neg (fun h=>h hc),if_pos e] at h;simp at h
 cases hq:rdK f b n.toNat with
 | none=>rw [ZaV hc hn hq] at h;simp at h
 | some x =>
  obtain ⟨o,a⟩:=x;have e:=Zbu hc hn hq;by_cases he:end_ b a=true
  ·rw [if_pos he] at e;obtain ⟨bs,l1,l2,l3,e1,e2⟩:=ZfQ _ o a hq;rw [e]
   have hso:(⟨o.toArray⟩:ByteArray).size=n.toNat:=by
    show o.toArray.size=_;simp [l1]
   refine ⟨?_,by simp only;rw [hso];omega⟩;simp only;rw [wrt,if_neg (fun h=>h hc),if_neg (by omega),hso,e1];simp only;rw [<-ZjI l2 e2 he]
  ·rw [if_neg he] at e;rw [e] at h;simp at h
end Go.Proofs.YtbjbjbpgmojcbabGreat.Cd
namespace Go.Proofs.YtbjbjbpgmojcbabGreat
open Go.RowKit
theorem Zkp {gr:Nat} {f:Nat->Int} {b:ByteArray} {a a1:Nat} {x:Int} (hb:b.size<=140737488355328) (ha:a<=8*b.size) (h:Cd.s15 f b a=(x,a1)) (w:World) (hB:RdAt w gr f (Cd.wds f) b a) :
 Calls Tryz.prog 209 #[.pointer (some ⟨gr,0,none⟩)] w fun e w'=>e=.returned (.int .i64 x)/\Only gr w w'/\RdAt w' gr f (Cd.wds f) b a1:=by
 have h9:=ZpZ gr f (Cd.wds f) b a w hB hb ha;have h8:Cd.sgn f (Cd.wds f) b 15 1 0 a=(x,a1):=h;rw [h8] at h9;exact h9
theorem Zsb {f:Nat->Int} {b:ByteArray} {a a1:Nat} {x:Int} (ha:a<=8*b.size) (h:Cd.s15 f b a=(x,a1)):a1<=8*b.size/\-1<=x/\x<16:=by
 have h1:=Cd.ZuC (f:=f) (ws:=Cd.wds f) (b:=b) 15 1 0 a ha;have h8:Cd.sgn f (Cd.wds f) b 15 1 0 a=(x,a1):=h;rw [h8] at h1;refine ⟨h1,?_⟩;by_cases hx:x=-1
 ·omega
 ·obtain ⟨s,d,e,hs,_⟩:=Cd.Zea (f:=f) (ws:=Cd.wds f) (b:=b) 15 1 0 a (nl _) (by show (Cd.sgn f (Cd.wds f) b 15 1 0 a).1 ≠ -1;rw [h8];exact hx);have h7:((s:Int),a+d)=(x,a1):=e.symm.trans h8;simp only [Prod.mk.injEq] at h7;omega
theorem RdAt.grown {w w1:World} {gr:Nat} {f ws:Nat->Int} {b:ByteArray} {a:Nat} {v:Value} {o:Obj} (h:RdAt w gr f ws b a) (hne:some gr ≠ v.ownBlock) (hg:(w.alloc o).grownBy w1 v.ownBlock):RdAt w1 gr f ws b a:=by
 have hblk:w1.heap[gr]?=w.heap[gr]?:=by
  rw [hg.block gr (by have:=h.1;simp;omega) hne];exact ((bR w.heap.size w).alloc (nl _) o).block gr h.1
 have h2:=hblk.trans h.2;exact ⟨(aG.1 h2).1,h2⟩
theorem ZnV:(Tryz.prog.info? 228).map (·.size)=some 34:=by kernel_rfl
theorem ZbR (f ws:Nat->Int) (b:ByteArray) (a:Nat):(rdc f ws b a).size=34:=by simp [rdc,Zi]
theorem ZeR {P:Program} {ops:Array Oper} {o:Oper} {a:Act} {w:World} {K:Act->World->Prop} {Q:Exit->Act->World->Prop} {E:Prop} (hg:o.guard=none) (h:Oper.wp P o a w K Q) :
 if Region.wanted o (yielded ops a.tmps)=true then Oper.wp P o a w K Q else E:=by
 have hw:Region.wanted o (yielded ops a.tmps)=true:=by simp [Region.wanted,hg]
 rw [if_pos hw];exact h
theorem Zfp {P:Program} {md:Region.Mode} {ops:Array Oper} {Q:Exit->Act->World->Prop} {S:World->Prop} {i:Nat} {o:Oper} {fuel:Nat} {listed:Array Bool} {a:Act} {w:World}
 (hr:Region.ready md ops listed=[i]) (hr2:Region.ready md ops (listed.setIfInBounds i true)=[]) (ho:ops[i]?=some o) (hg:o.guard=none)
 (h:∀ K:Act->World->Prop,(∀ a w,S w->Q .normal a w->K a w)->Oper.wp P o a w K Q):wpAnyH P md ops Q S (fuel+1) listed a w :=
 wpAnyH_all hr (by simp) (fun j hj=>by
  obtain rfl:j=i:=by simpa using hj
  exact wpOp_step ho (fun K hK=>ZeR hg (h K (fun a w hs hq=>hK a w ⟨hs,wpAnyH_done hr2 hq _⟩))))
theorem Zfu {P:Program} {md:Region.Mode} {ops:Array Oper} {Q:Exit->Act->World->Prop} {S:World->Prop} {i:Nat} {o:Oper} {fuel:Nat} {listed:Array Bool} {a:Act} {w:World}
 (hr:Region.ready md ops listed=[i]) (hr2:Region.ready md ops (listed.setIfInBounds i true)=[]) (ho:ops[i]?=some o) (hg:o.guard=none) (hd:o.dst=none)
 (ty:TypeId) (x y:Operand) (hop:o.op=.store ty x y) (g:Nat) (cells:Array Value) (hx:a.eval x=.pointer (some ⟨g,0,none⟩)) (hy:a.eval y=.agg cells)
 (t:TypeId) (old:Array Value) (hgr:w.heap[g]?=some (.cells old t (0,0))) (hi:(P.info? ty).map (·.size)=some cells.size)
 (hold:old.size=cells.size) (h1:cells.all (·.oneCell')=true) (hS:S (w.setRow g cells)) (h:Q .normal (a.put none undef) (w.setRow g cells)):wpAnyH P md ops Q S (fuel+1) listed a w :=
 Zfp hr hr2 ho hg (fun K hK=>wp_store_row ty x y hop g cells hx hy t old hgr hi hold h1 (hK _ _ hS (by rw [hd];exact h)))
theorem ZdA {P:Program} {ops:Array Oper} {S:World->Prop} {op:Oper} {a:Act} (hw:Region.wanted op (yielded ops a.tmps)=true) (t:TypeId) (parts:Array (Nat × Operand)) (ho:op.op=.build t parts) (cells:Array Value)
 (hb:P.built t (parts.map fun (i,x)=>(i,a.eval x)).toList=some cells):YieldsIf P ops S op (.agg cells) a :=
 .inl ⟨hw,fun w _=>by
  unfold execOp
  simp only [ho,Sem.run_bind,run_build w t _ cells hb,Result.andThen_ok,Sem.run_pure]⟩
theorem Zmb (f ws:Nat->Int) (b:ByteArray) (a:Nat):(rdc f ws b a).all (·.oneCell')=true:=by
 unfold rdc;rw [Array.all_append,Array.all_append,ZW,ZW];simp [Value.oneCell']
def rd0:Array Value:=rdc (fun _=>0) (fun _=>0) ⟨#[]⟩ 0
theorem ZmS:rd0=#[.int .i64 0,.int .i64 0,.int .i64 0,.int .i64 0,.int .i64 0,.int .i64 0,.int .i64 0,.int .i64 0,.int .i64 0,.int .i64 0,.int .i64 0,.int .i64 0,.int .i64 0,.int .i64 0,.int .i64 0,.int .i64 0,.int .i64 0,.int .i64 0,.int .i64 0,.int .i64 0,.int .i64 0,.int .i64 0,.int .i64 0,.int .i64 0,.int .i64 0,.int .i64 0,.int .i64 0,.int .i64 0,.int .i64 0,.int .i64 0,.int .i64 0,.int .i64 0,.string ⟨#[]⟩,.int .i64 0]:=by kernel_rfl
theorem RdAt.laid {w:World} {gr:Nat} {C:Array Value} (h:w.heap[gr]?=some (.cells C 228 (0,0))) (f ws:Nat->Int) (b:ByteArray) (a:Nat):RdAt (w.setRow gr (rdc f ws b a)) gr f ws b a:=by
 have hlt:=(aG.1 h).1;refine ⟨by simpa [World.setRow] using hlt,?_⟩;show (w.heap.modify gr _)[gr]?=_;rw [Array.getElem?_modify,if_pos rfl,h];rfl
theorem ZhN {w:World} {g:Nat} {f:Nat->Int} (h:RowAt w g f):w.rangeAt g 0 (arr f).toList:=by
 have:=World.rangeAt_of_block h.2 0 16
 rwa [show (arr f).extract 0 (0+16)=arr f by rw [Nat.zero_add,<-Zi f];exact Array.extract_size] at this
theorem ZiG (f:Nat->Int) (b:ByteArray) (n:Int) (w:World) (h0:Cd.chk f=0) (hn0:0<=n) (hn1:n<=1024) (hb:b.size<=140737488355328) :
 Calls Tryz.prog 189 #[.agg (arr f),.string b,.int .i64 n] w fun e w'=>e=.returned (.tuple #[.string (Cd.rd f b n).1,.int .i64 (Cd.rd f b n).2])/\Below w.heap.size w w':=by
 have hck:=fun w=>Zaa f w
 rw [h0] at hck;have hwd:=fun w=>ZcQ f w
 have hin:=Zc f;have R1:=RowAt.new w f;have HB:Below w.heap.size w (w.alloc (.cells (arr f) 127)):=(bR _ _).alloc (nl _) _;have d1:decide (n<0)=false:=by simp;omega
 have d2:decide (1024<n)=false:=by simp;omega
 obtain ⟨r1,r2,hr⟩:∃ r1 r2,Cd.rd f b n=(r1,r2):=⟨_,_,rfl⟩
 rw [hr];have Hr:Hid (Cd.rd f b n=(r1,r2)):=hr;have H0:Hid (Cd.chk f=0):=h0;clear hr h0;go_enter Tryz.func189,Tryz.ntmps189
 go_wp2_with (refine wpList_load_row rfl 127 _ rfl w.heap.size rfl 127 (arr f) (0,0) _ R1.2 U127 rfl hin ?_)
 refine (hck _).mono ?_;rintro e w1 ⟨rfl,G1⟩;have S1:=R1.below G1;have B1:=bch HB G1 (nl _);clear R1 HB G1 hck;go_wp2_with fail
 go_cut [9] (fun p wx=>∃ gr,p=.pointer (some ⟨gr,0,none⟩)/\RdAt wx gr f (Cd.wds f) b 0/\w.heap.size<=gr/\Below w.heap.size w wx)
 case first =>
  refine wp_region_held_drew (S:=fun w'=>RowAt w' w.heap.size f) (by kernel_rfl) S1 (fun hS=>?_);refine wK (i:=0) (fuel:=6) rfl (by kernel_rfl) (by kernel_rfl) (by kernel_rfl) (fun _ _ _ h=>h) (yieldsIf_load_mid (by rfl) 127 _ rfl w.heap.size 0 rfl (arr f).toList _ (fun w' h'=>ZhN h') U127 rfl (by rw [Array.length_toList];exact hin)) hS ?_;refine wK (i:=1) (fuel:=5) rfl (by kernel_rfl) (by kernel_rfl) (by kernel_rfl) (fun _ _ _ h=>h) (yieldsIf_load_mid (by rfl) 127 _ rfl w.heap.size 0 rfl (arr f).toList _ (fun w' h'=>ZhN h') U127 rfl (by rw [Array.length_toList];exact hin)) hS ?_;refine wK (i:=3) (fuel:=4) (v:=.string b) rfl (by kernel_rfl) (by kernel_rfl) (by kernel_rfl) (fun _ _ _ h=>h) (Or.inl ⟨by rfl,fun w _=>by go_simp⟩) hS ?_;refine wY (rs:=[2,5]) (fuel:=3) (by kernel_rfl) (by simp) ?_;refine rC rfl (fun K hK=>?_) ?_
  ·go_simp
   refine (hwd _).mono ?_;rintro e w2 ⟨rfl,G2⟩;have T2:=(show RowAt w1.drew w.heap.size f from S1).below G2;have B2:=bch (show Below w.heap.size w w1.drew from B1.drew) G2 (nl _);refine hK.out _ _ T2 (fun hS2=>?_);clear hK;refine wK (i:=4) (fuel:=2) (v:=.agg (rdc f (Cd.wds f) b 0)) rfl (by kernel_rfl) (by kernel_rfl) (by kernel_rfl) (fun _ _ _ h=>h) (ZdA (by rfl) 228 _ rfl _ (by kernel_rfl)) hS2 ?_;refine wY (rs:=[5]) (fuel:=1) (by kernel_rfl) (by simp) ?_;refine rC rfl (fun K hK=>?_) rN;go_simp
   have A1:(w2.alloc (.cells #[.int .i64 0,.int .i64 0,.int .i64 0,.int .i64 0,.int .i64 0,.int .i64 0,.int .i64 0,.int .i64 0,.int .i64 0,.int .i64 0,.int .i64 0,.int .i64 0,.int .i64 0,.int .i64 0,.int .i64 0,.int .i64 0,.int .i64 0,.int .i64 0,.int .i64 0,.int .i64 0,.int .i64 0,.int .i64 0,.int .i64 0,.int .i64 0,.int .i64 0,.int .i64 0,.int .i64 0,.int .i64 0,.int .i64 0,.int .i64 0,.int .i64 0,.int .i64 0,.string ⟨#[]⟩,.int .i64 0] 228)).heap[w2.heap.size]?=some (.cells rd0 228):=by rw [ZmS];exact heap_alloc_last w2 _
   have T3:=T2.alloc (.cells #[.int .i64 0,.int .i64 0,.int .i64 0,.int .i64 0,.int .i64 0,.int .i64 0,.int .i64 0,.int .i64 0,.int .i64 0,.int .i64 0,.int .i64 0,.int .i64 0,.int .i64 0,.int .i64 0,.int .i64 0,.int .i64 0,.int .i64 0,.int .i64 0,.int .i64 0,.int .i64 0,.int .i64 0,.int .i64 0,.int .i64 0,.int .i64 0,.int .i64 0,.int .i64 0,.int .i64 0,.int .i64 0,.int .i64 0,.int .i64 0,.int .i64 0,.int .i64 0,.string ⟨#[]⟩,.int .i64 0] 228);have B3:=B2.alloc (nL T2.1) (.cells #[.int .i64 0,.int .i64 0,.int .i64 0,.int .i64 0,.int .i64 0,.int .i64 0,.int .i64 0,.int .i64 0,.int .i64 0,.int .i64 0,.int .i64 0,.int .i64 0,.int .i64 0,.int .i64 0,.int .i64 0,.int .i64 0,.int .i64 0,.int .i64 0,.int .i64 0,.int .i64 0,.int .i64 0,.int .i64 0,.int .i64 0,.int .i64 0,.int .i64 0,.int .i64 0,.int .i64 0,.int .i64 0,.int .i64 0,.int .i64 0,.int .i64 0,.int .i64 0,.string ⟨#[]⟩,.int .i64 0] 228);have hlt:=T2.1;generalize w2.alloc (.cells #[.int .i64 0,.int .i64 0,.int .i64 0,.int .i64 0,.int .i64 0,.int .i64 0,.int .i64 0,.int .i64 0,.int .i64 0,.int .i64 0,.int .i64 0,.int .i64 0,.int .i64 0,.int .i64 0,.int .i64 0,.int .i64 0,.int .i64 0,.int .i64 0,.int .i64 0,.int .i64 0,.int .i64 0,.int .i64 0,.int .i64 0,.int .i64 0,.int .i64 0,.int .i64 0,.int .i64 0,.int .i64 0,.int .i64 0,.int .i64 0,.int .i64 0,.int .i64 0,.string ⟨#[]⟩,.int .i64 0] 228)=w3 at *;generalize w2.heap.size=gr at *;clear T2 B2 G2;have hz0:rd0.size=34:=ZbR _ _ _ _;generalize rd0=z0 at *;refine hK.out _ _ T3 (fun hS3=>?_);clear hK;refine Zfu (i:=6) (fuel:=0) (by kernel_rfl) (by kernel_rfl) rfl rfl rfl 228 (Operand.tmp 9) (Operand.tmp 28) rfl gr (rdc f (Cd.wds f) b 0) rfl rfl 228 z0 A1 (by rw [ZbR];exact ZnV) (by rw [ZbR];exact hz0) (Zmb _ _ _ _) (T3.setRowFar (by omega) _) ?_;go_wp2_with fail
   go_meet
   exact ⟨gr,rfl,RdAt.laid A1 f (Cd.wds f) b 0,nL hlt,Zq B3 (nL hlt) _⟩
  refine rC rfl (fun K hK=>?_) rN;go_simp
  have A1:((w1.alloc (.cells #[.int .i64 0,.int .i64 0,.int .i64 0,.int .i64 0,.int .i64 0,.int .i64 0,.int .i64 0,.int .i64 0,.int .i64 0,.int .i64 0,.int .i64 0,.int .i64 0,.int .i64 0,.int .i64 0,.int .i64 0,.int .i64 0,.int .i64 0,.int .i64 0,.int .i64 0,.int .i64 0,.int .i64 0,.int .i64 0,.int .i64 0,.int .i64 0,.int .i64 0,.int .i64 0,.int .i64 0,.int .i64 0,.int .i64 0,.int .i64 0,.int .i64 0,.int .i64 0,.string ⟨#[]⟩,.int .i64 0] 228)).drew).heap[w1.heap.size]?=some (.cells rd0 228):=by rw [ZmS];exact heap_alloc_last w1 _
  have T3:RowAt ((w1.alloc (.cells #[.int .i64 0,.int .i64 0,.int .i64 0,.int .i64 0,.int .i64 0,.int .i64 0,.int .i64 0,.int .i64 0,.int .i64 0,.int .i64 0,.int .i64 0,.int .i64 0,.int .i64 0,.int .i64 0,.int .i64 0,.int .i64 0,.int .i64 0,.int .i64 0,.int .i64 0,.int .i64 0,.int .i64 0,.int .i64 0,.int .i64 0,.int .i64 0,.int .i64 0,.int .i64 0,.int .i64 0,.int .i64 0,.int .i64 0,.int .i64 0,.int .i64 0,.int .i64 0,.string ⟨#[]⟩,.int .i64 0] 228)).drew) w.heap.size f:=S1.alloc _;have B3:Below w.heap.size w ((w1.alloc (.cells #[.int .i64 0,.int .i64 0,.int .i64 0,.int .i64 0,.int .i64 0,.int .i64 0,.int .i64 0,.int .i64 0,.int .i64 0,.int .i64 0,.int .i64 0,.int .i64 0,.int .i64 0,.int .i64 0,.int .i64 0,.int .i64 0,.int .i64 0,.int .i64 0,.int .i64 0,.int .i64 0,.int .i64 0,.int .i64 0,.int .i64 0,.int .i64 0,.int .i64 0,.int .i64 0,.int .i64 0,.int .i64 0,.int .i64 0,.int .i64 0,.int .i64 0,.int .i64 0,.string ⟨#[]⟩,.int .i64 0] 228)).drew):=(B1.alloc (nL S1.1) (.cells #[.int .i64 0,.int .i64 0,.int .i64 0,.int .i64 0,.int .i64 0,.int .i64 0,.int .i64 0,.int .i64 0,.int .i64 0,.int .i64 0,.int .i64 0,.int .i64 0,.int .i64 0,.int .i64 0,.int .i64 0,.int .i64 0,.int .i64 0,.int .i64 0,.int .i64 0,.int .i64 0,.int .i64 0,.int .i64 0,.int .i64 0,.int .i64 0,.int .i64 0,.int .i64 0,.int .i64 0,.int .i64 0,.int .i64 0,.int .i64 0,.int .i64 0,.int .i64 0,.string ⟨#[]⟩,.int .i64 0] 228)).drew;have hlt:=S1.1;generalize (w1.alloc (.cells #[.int .i64 0,.int .i64 0,.int .i64 0,.int .i64 0,.int .i64 0,.int .i64 0,.int .i64 0,.int .i64 0,.int .i64 0,.int .i64 0,.int .i64 0,.int .i64 0,.int .i64 0,.int .i64 0,.int .i64 0,.int .i64 0,.int .i64 0,.int .i64 0,.int .i64 0,.int .i64 0,.int .i64 0,.int .i64 0,.int .i64 0,.int .i64 0,.int .i64 0,.int .i64 0,.int .i64 0,.int .i64 0,.int .i64 0,.int .i64 0,.int .i64 0,.int .i64 0,.string ⟨#[]⟩,.int .i64 0] 228)).drew=w3 at *;generalize w1.heap.size=gr at *;have hz0:rd0.size=34:=ZbR _ _ _ _;generalize rd0=z0 at *;refine hK.out _ _ T3 (fun hS3=>?_);clear hK;refine wY (rs:=[2]) (fuel:=2) (by kernel_rfl) (by simp) ?_;refine rC rfl (fun K hK=>?_) rN;go_simp
  refine (hwd _).mono ?_;rintro e w4 ⟨rfl,G4⟩;have A4:w4.heap[gr]?=some (.cells z0 228):=by rw [G4.block gr (Array.getElem?_eq_some_iff.1 A1).1];exact A1
  have T4:=T3.below G4;have B4:=bch B3 G4 (nl _);refine hK.out _ _ T4 (fun hS4=>?_);clear hK;refine wK (i:=4) (fuel:=1) (v:=.agg (rdc f (Cd.wds f) b 0)) rfl (by kernel_rfl) (by kernel_rfl) (by kernel_rfl) (fun _ _ _ h=>h) (ZdA (by rfl) 228 _ rfl _ (by kernel_rfl)) hS4 ?_;refine Zfu (i:=6) (fuel:=0) (by kernel_rfl) (by kernel_rfl) rfl rfl rfl 228 (Operand.tmp 9) (Operand.tmp 28) rfl gr (rdc f (Cd.wds f) b 0) rfl rfl 228 z0 A4 (by rw [ZbR];exact ZnV) (by rw [ZbR];exact hz0) (Zmb _ _ _ _) (T4.setRowFar (by omega) _) ?_;go_wp2_with fail
  go_meet
  exact ⟨gr,rfl,RdAt.laid A4 f (Cd.wds f) b 0,nL hlt,Zq B4 (nL hlt) _⟩
 case rest =>
  obtain ⟨gr,rfl,hB,hgr,B2⟩:=hcut;clear S1 B1 hwd;obtain ⟨i0,hi,hz0,hz1,hz2⟩:=info_parts Zct;go_wp2_with fail
  go_loopw [10,30] (fun v i wr=>∃ (k:Nat) (o:List UInt8) (a:Nat),(k:Int)<=n/\i=.int .i64 k/\Hid (Cd.rdK f b k=some (o,a))/\a<=8*b.size/\o.length<=1024/\Hid (o.length=k)/\RdAt wr gr f (Cd.wds f) b a/\wr.ownsRow (gr+1) 5 1 v o.length (bcs o)/\Below w.heap.size w wr) (fun _ i _=>n.toNat - (intOf i).toNat)
  case atStart=>exact ⟨0,[],0,hn0,rfl,rfl,by omega,by simp,rfl,hB,World.ownsRow_nil _ _ _ _,B2⟩
  case round =>
   clear hB B2;obtain ⟨k,o,a,hk,rfl,hK,ha,hol,Hol,hB,ho,B2⟩:=hrel;by_cases hlt:(k:Int)<n
   ·have hk1:decide ((k:Int)<n)=true:=by simpa using hlt
    obtain ⟨x,a1,h1⟩:∃ x a1,Cd.s15 f b a=(x,a1):=⟨_,_,rfl⟩
    obtain ⟨y,a2,h2⟩:∃ y a2,Cd.s15 f b a1=(y,a2):=⟨_,_,rfl⟩
    obtain ⟨p1,p2,p3⟩:=Zsb ha h1;obtain ⟨q1,q2,q3⟩:=Zsb p1 h2;have HS1:=fun w' h=>Zkp (gr:=gr) hb ha h1 w' h
    have HS2:=fun w' h=>Zkp (gr:=gr) hb p1 h2 w' h
    have H1:Hid (Cd.s15 f b a=(x,a1)):=h1;have H2:Hid (Cd.s15 f b a1=(y,a2)):=h2;clear h1 h2;go_wp2_with fail
    refine (HS1 _ hB).mono ?_;rintro e w4 ⟨rfl,G4,Z4⟩;have O4:=G4.own ho;have B4:=B2.trans (G4.1.mono hgr);clear hB ho B2 G4 HS1;go_wp2_with fail
    refine (HS2 _ Z4).mono ?_;rintro e w5 ⟨rfl,G5,Z5⟩;have O5:=G5.own O4;have B5:=B4.trans (G5.1.mono hgr);clear Z4 O4 B4 G5 HS2;by_cases hx:x=-1\/y=-1
    ·have h9:Cd.rd f b n=(⟨#[]⟩,1):=Cd.ZaV H0.out (by omega) (Cd.ZfM (by omega) hK.out H1.out H2.out hx);have h8:=Hr.out.symm.trans h9;simp only [Prod.mk.injEq] at h8;obtain ⟨rfl,rfl⟩:=h8;clear h9;by_cases hx1:x=-1
     ·subst hx1;clear hx;go_wp2_with fail
      go_ret2
      exact ⟨rfl,B5⟩
     ·have hy1:y=-1:=by omega
      subst hy1;have dx:(x == -1)=false:=by simpa using hx1
      clear hx;go_wp2_with fail
      go_ret2
      exact ⟨rfl,B5⟩
    ·have hx1:¬ x=-1:=fun h=>hx (.inl h)
     have hy1:¬ y=-1:=fun h=>hx (.inr h)
     have dx:(x == -1)=false:=by simpa using hx1
     have dy:(y == -1)=false:=by simpa using hy1
     have HN:Hid (Cd.rdK f b (k+1)=some (o++[UInt8.ofNat (x*16+y).toNat],a2)):=Cd.Zgy hK.out H1.out H2.out hx;have hx0:0<=x:=by omega
     have hy0:0<=y:=by omega
     have hxy:0<=x*16+y/\x*16+y<256:=by omega
     have hm:(x*16+y) % 256=x*16+y:=by omega
     have HB:Hid (bcs (o++[UInt8.ofNat (x*16+y).toNat])=bcs o++[.int .u8 (x*16+y)]):=ZcR o _ hxy.1 hxy.2;have hle:gr+1<=(w5.alloc (.cells #[.int .u8 (x*16+y)] 5)).heap.size:=by have:=Z5.1;simp;omega
     have hkn:k+1<=n.toNat:=by omega
     have HK1:Hid (((k+1:Nat):Int)<=n/\o.length+1<=1024/\o.length+1=k+1):=by have:=Hol.out;show _/\_/\_;omega
     clear hx hx1 hy1 H1 H2 hK p2 p3 q2 q3;go_wp2_with (at_builtin;go_must (refine wpList_append_own _ rfl _ _ 93 rfl (gr+1) 5 i0 (.int .u8 0) 1 1 U93 hi hz0 hz1 hz2 rfl (by decide) _ _ _ rfl (O5.alloc _) ⟨w5.heap.size,0,none⟩ 1 1 [.int .u8 (x*16+y)] rfl rfl (cell_one_new _ _ _) (ZdO _) (ZaK (by omega)) (by omega) hle ?_;intro v' w6 hown' hgrow _))
     have hne:some gr ≠ Value.ownBlock u10:=fun e=>by have:=(O5.lt gr e.symm).1;omega
     have Z6:RdAt w6 gr f (Cd.wds f) b a2:=by
      refine Z5.grown hne hgrow
     have B6:Below w.heap.size w w6:=(B5.alloc (nt hgr (nL Z5.1)) _).grown hgrow (by have:=Z5.1;simp;omega) (fun j hj=>by have:=(O5.lt j hj).1;omega);refine ⟨⟨k+1,o++[UInt8.ofNat (x*16+y).toNat],a2,HK1.out.1,by go_num,HN,q1,by have:=HK1.out.2.1;simp;omega,by show _=_;have:=HK1.out.2.2;simp;omega,Z6,?_,B6⟩,by simp [intOf];omega⟩;rw [HB.out,List.length_append];exact hown'
   ·obtain hkn:(k:Int)=n:=by omega
    have hend:=Zne gr f (Cd.wds f) b a wr hB hb ha;have h9:=Cd.Zbu (n:=n) (o:=o) (a:=a) H0.out (by omega) (by rw [<-hkn,Int.toNat_natCast];exact hK.out);have h8:=Hr.out.symm.trans h9;have hk1:decide ((k:Int)<n)=false:=by simpa using hlt
    clear h9;by_cases he:Cd.end_ b a=true
    ·rw [if_pos he] at h8;simp only [Prod.mk.injEq] at h8;obtain ⟨rfl,rfl⟩:=h8;rw [he] at hend;clear hkn he;go_wp2_with fail
     refine hend.mono ?_;rintro e w4 ⟨rfl,G4⟩;have hcv:=ZbQ (l:=o) (Zh ho G4);have B4:=bch B2 G4 (nl _);go_wp2_with fail
     go_ret2
     exact ⟨rfl,B4⟩
    ·rw [if_neg he] at h8;simp only [Prod.mk.injEq] at h8;obtain ⟨rfl,rfl⟩:=h8;have he':Cd.end_ b a=false:=by simpa using he
     rw [he'] at hend;clear hkn he he';go_wp2_with fail
     refine hend.mono ?_;rintro e w4 ⟨rfl,G4⟩;have B4:=bch B2 G4 (nl _);go_wp2_with fail
     go_ret2
     exact ⟨rfl,B4⟩
theorem ZgG (f:Nat->Int) (b:ByteArray) (n:Int) (w:World) (hb:b.size<=140737488355328) :
 Calls Tryz.prog 189 #[.agg (arr f),.string b,.int .i64 n] w fun e w'=>e=.returned (.tuple #[.string (Cd.rd f b n).1,.int .i64 (Cd.rd f b n).2])/\Below w.heap.size w w':=by
 by_cases h0:Cd.chk f=0
 ·by_cases hn:n<0\/1024<n
  ·have h9:Cd.rd f b n=(⟨#[]⟩,3):=by rw [Cd.rd,if_neg (fun h=>h h0),if_pos hn]
   rw [h9];have hck:=fun w=>Zaa f w
   rw [h0] at hck;have hin:=Zc f;have R1:=RowAt.new w f;have HB:Below w.heap.size w (w.alloc (.cells (arr f) 127)):=(bR _ _).alloc (nl _) _;clear h9 h0;by_cases hn0:n<0
   ·have d1:decide (n<0)=true:=by simpa using hn0
    clear hn;go_enter Tryz.func189,Tryz.ntmps189
    go_wp2_with (refine wpList_load_row rfl 127 _ rfl w.heap.size rfl 127 (arr f) (0,0) _ R1.2 U127 rfl hin ?_)
    refine (hck _).mono ?_;rintro e w1 ⟨rfl,G1⟩;have B1:=bch HB G1 (nl _);clear R1 HB G1 hck;go_wp2_with fail
    go_ret2
    exact ⟨rfl,B1⟩
   ·have d1:decide (n<0)=false:=by simpa using hn0
    have hn1:1024<n:=by omega
    have d2:decide (1024<n)=true:=by simpa using hn1
    clear hn;go_enter Tryz.func189,Tryz.ntmps189
    go_wp2_with (refine wpList_load_row rfl 127 _ rfl w.heap.size rfl 127 (arr f) (0,0) _ R1.2 U127 rfl hin ?_)
    refine (hck _).mono ?_;rintro e w1 ⟨rfl,G1⟩;have B1:=bch HB G1 (nl _);clear R1 HB G1 hck;go_wp2_with fail
    go_ret2
    exact ⟨rfl,B1⟩
  ·exact ZiG f b n w h0 (by omega) (by omega) hb
 ·have h9:Cd.rd f b n=(⟨#[]⟩,Cd.chk f):=by rw [Cd.rd,if_pos h0]
  rw [h9];have hck:=fun w=>Zaa f w
  have hin:=Zc f;have R1:=RowAt.new w f;have HB:Below w.heap.size w (w.alloc (.cells (arr f) 127)):=(bR _ _).alloc (nl _) _;generalize Cd.chk f=E at *;have d0:(E != 0)=true:=by simpa using h0
  clear h9 h0;go_enter Tryz.func189,Tryz.ntmps189
  go_wp2_with (refine wpList_load_row rfl 127 _ rfl w.heap.size rfl 127 (arr f) (0,0) _ R1.2 U127 rfl hin ?_)
  refine (hck _).mono ?_;rintro e w1 ⟨rfl,G1⟩;have B1:=bch HB G1 (nl _);clear R1 HB G1 hck;go_wp2_with fail
  go_ret2
  exact ⟨rfl,B1⟩
namespace Bk
def hvK (s:ByteArray):Nat->(Nat->Int)
 | 0=>fun _=>0
 | k+1=>upd (upd (hvK s k) (Cd.at8 s k / 16) (hvK s k (Cd.at8 s k / 16)+1)) (Cd.at8 s k % 16) (upd (hvK s k) (Cd.at8 s k / 16) (hvK s k (Cd.at8 s k / 16)+1) (Cd.at8 s k % 16)+1)
def hv (s:ByteArray):Nat->Int:=hvK s s.size
theorem Zig (s:ByteArray):∀ k i,0<=hvK s k i/\hvK s k i<=2*k:=by
 intro k
 induction k with
 | zero=>intro i;simp [hvK]
 | succ k ih =>
  intro i;have h1:=ih i;have h2:=ih (Cd.at8 s k / 16);have h3:=ih (Cd.at8 s k % 16);rw [hvK];unfold upd;split
  ·split <;> omega
  ·split <;> omega
theorem ZoF (s:ByteArray) (h:s.size<=1024):Cd.InR (hv s) 2048 16:=fun i _=>by
 have:=Zig s s.size i;unfold hv;omega
end Bk
theorem ZkG (s:ByteArray) (w:World) (hs:s.size<=1024) :
 Calls Tryz.prog 161 #[.string s] w fun e w'=>e=.returned (.agg (arr (Bk.hv s)))/\Below w.heap.size w w':=by
 obtain ⟨R2,R3⟩:=RowAt.two w (fun _=>0) (fun _=>0);have HB:=Zkk w (.cells (arr fun _=>0) 127) (.cells (arr fun _=>0) 127);rw [<-Zm] at R2 R3 HB;have hs':(s.size:Int)<=1024:=by omega
 obtain ⟨r,hr⟩:∃ r,Bk.hv s=r:=⟨_,rfl⟩
 rw [hr];have Hr:Hid (Bk.hvK s s.size=r):=hr;clear hr;go_enter Tryz.func161,Tryz.ntmps161
 go_wp2_with fail
 rw [Zm] at R2 R3 HB;rw [Zm];generalize (w.alloc (.cells (arr fun _=>0) 127)).alloc (.cells (arr fun _=>0) 127)=w0 at *
 obtain ⟨g1,hg1⟩:∃ g1,g1=w.heap.size:=⟨_,rfl⟩
 have hq:Hid (g1<w.heap.size+1/\w.heap.size=g1):=by show _/\_;omega
 generalize w.heap.size+1=g3 at *;clear hg1;go_loopw [7] (fun i wr=>∃ k:Nat,k<=s.size/\i=.int .i64 k/\RowAt wr w.heap.size (fun _=>0)/\RowAt wr g3 (Bk.hvK s k)/\Below w.heap.size w wr) (fun i _=>s.size - (intOf i).toNat)
 case atStart=>exact ⟨0,by omega,rfl,R2,R3,HB⟩
 case round =>
  clear R2 R3 HB;obtain ⟨k,hk,rfl,R2,R3,HB⟩:=hrel;by_cases hlt:k<s.size
  ·have hk1:decide ((k:Int)<(s.size:Int))=true:=by simp;omega
   have hk2:decide (k<s.size)=true:=by simp;omega
   have hk3:(k:Int)<(s.size:Int):=by omega
   obtain ⟨x,hx⟩:∃ x:Int,(s[k].toNat:Int)=x:=⟨_,rfl⟩
   have hA:Cd.at8 s k=s[k].toNat:=by unfold Cd.at8;rw [Nm.ZN s k hlt];rfl
   have hA2:=Cd.ZaC s k;have hx0:0<=x:=by omega
   have hx1:x<=255:=by omega
   obtain ⟨H,hH⟩:∃ H,Cd.at8 s k / 16=H:=⟨_,rfl⟩
   obtain ⟨L,hL⟩:∃ L,Cd.at8 s k % 16=L:=⟨_,rfl⟩
   have e1:x / 16=(H:Int):=by omega
   have e2:x % 16=(L:Int):=by omega
   have e3:x.tdiv 16=(H:Int):=by rw [Int.tdiv_eq_ediv_of_nonneg hx0];exact e1
   have e4:x.tmod 16=(L:Int):=by rw [Int.tmod_eq_emod_of_nonneg hx0];exact e2
   have hH1:H<16:=by omega
   have hL1:L<16:=by omega
   have hH2:(H:Int)<16:=by omega
   have hL2:(L:Int)<16:=by omega
   have HN:Hid (Bk.hvK s (k+1)=upd (upd (Bk.hvK s k) H (Bk.hvK s k H+1)) L (upd (Bk.hvK s k) H (Bk.hvK s k H+1) L+1)):=by show _=_;rw [Bk.hvK,hH,hL]
   have hb1:=Bk.Zig s k H
   have hb2:0<=upd (Bk.hvK s k) H (Bk.hvK s k H+1) L/\upd (Bk.hvK s k) H (Bk.hvK s k H+1) L<=4096:=by
    have:=Bk.Zig s k L;unfold upd;split <;> omega
   have hb3:Bk.hvK s k H<=4096:=by omega
   have hb4:=hb1.1;clear hA hA2 hH hL e1 e2 hb1;have c1:=R3.cell H hH1;have f1:=R3.frozen H;have S3:=R3.set H (Bk.hvK s k H+1);have S2:=R2.setFar (q:=g3) (by have:=hq.out;omega) H (.int .i64 (Bk.hvK s k H+1));have SB:=HB.setCell (p:=⟨g3,H,none⟩) (by have:=hq.out;show _<=g3;omega) (.int .i64 (Bk.hvK s k H+1));have c2:=S3.cell L hL1;have f2:=S3.frozen L;have T3:=S3.set L (upd (Bk.hvK s k) H (Bk.hvK s k H+1) L+1);have T2:=S2.setFar (q:=g3) (by have:=hq.out;omega) L (.int .i64 (upd (Bk.hvK s k) H (Bk.hvK s k H+1) L+1));have TB:=SB.setCell (p:=⟨g3,L,none⟩) (by have:=hq.out;show _<=g3;omega) (.int .i64 (upd (Bk.hvK s k) H (Bk.hvK s k H+1) L+1));rw [<-HN.out] at T3;generalize upd (Bk.hvK s k) H (Bk.hvK s k H+1) L=y2 at *;generalize Bk.hvK s k H=y1 at *;clear R2 R3 HB S2 S3 SB HN;go_wp2_with fail
   go_roundw
   case rel=>exact ⟨k+1,by omega,by go_num,T2,T3,TB⟩
   case measure=>simp [intOf];omega
  ·obtain rfl:k=s.size:=by omega
   rw [Hr.out] at R3;have hi1:=Zc r;have hk1:decide ((s.size:Int)<(s.size:Int))=false:=by simp
   have hk2:decide (s.size<s.size)=false:=by simp
   go_wp2_with (first | refine wpList_load_row rfl 127 _ rfl g3 rfl 127 (arr r) (0,0) _ R3.2 U127 rfl hi1 ?_ | refine wpList_store_row rfl 127 _ _ rfl w.heap.size (arr r) rfl rfl 127 _ R2.2 hi1 (by rw [Zi,Zi]) (ZW _) ?_)
   have U2:=R2.setRow r;exact bodyPost_ret (v:=.agg (arr r)) (results_cell_row Tryz.results161 _ _ w.heap.size 127 _ (0,0) _ rfl U2.2 U127 rfl hi1) rfl ⟨rfl,Zq HB (nl _) _⟩
theorem Zgb (s:ByteArray) (w:World) (hs:s.size<=1024) :
 Calls Tryz.prog 167 #[.string s] w fun e w'=>e=.returned (.agg (arr (Bk.hv s)))/\Below w.heap.size w w':=by
 obtain ⟨R2,R3⟩:=RowAt.two w (fun _=>0) (fun _=>0);have HB:=Zkk w (.cells (arr fun _=>0) 127) (.cells (arr fun _=>0) 127);rw [<-Zm] at R2 R3 HB;have hs':(s.size:Int)<=1024:=by omega
 obtain ⟨r,hr⟩:∃ r,Bk.hv s=r:=⟨_,rfl⟩
 rw [hr];have Hr:Hid (Bk.hvK s s.size=r):=hr;clear hr;go_enter Tryz.func167,Tryz.ntmps167
 go_wp2_with fail
 rw [Zm] at R2 R3 HB;rw [Zm];generalize (w.alloc (.cells (arr fun _=>0) 127)).alloc (.cells (arr fun _=>0) 127)=w0 at *
 obtain ⟨g1,hg1⟩:∃ g1,g1=w.heap.size:=⟨_,rfl⟩
 have hq:Hid (g1<w.heap.size+1/\w.heap.size=g1):=by show _/\_;omega
 generalize w.heap.size+1=g3 at *;clear hg1;go_loopw [4] (fun i wr=>∃ k:Nat,k<=s.size/\i=.int .i64 k/\RowAt wr w.heap.size (fun _=>0)/\RowAt wr g3 (Bk.hvK s k)/\Below w.heap.size w wr) (fun i _=>s.size - (intOf i).toNat)
 case atStart=>exact ⟨0,by omega,rfl,R2,R3,HB⟩
 case round =>
  clear R2 R3 HB;obtain ⟨k,hk,rfl,R2,R3,HB⟩:=hrel;by_cases hlt:k<s.size
  ·have hk1:decide ((k:Int)<(s.size:Int))=true:=by simp;omega
   have hk2:decide (k<s.size)=true:=by simp;omega
   have hk3:(k:Int)<(s.size:Int):=by omega
   obtain ⟨x,hx⟩:∃ x:Int,(s[k].toNat:Int)=x:=⟨_,rfl⟩
   have hA:Cd.at8 s k=s[k].toNat:=by unfold Cd.at8;rw [Nm.ZN s k hlt];rfl
   have hA2:=Cd.ZaC s k;have hx0:0<=x:=by omega
   have hx1:x<=255:=by omega
   obtain ⟨H,hH⟩:∃ H,Cd.at8 s k / 16=H:=⟨_,rfl⟩
   obtain ⟨L,hL⟩:∃ L,Cd.at8 s k % 16=L:=⟨_,rfl⟩
   have e1:x / 16=(H:Int):=by omega
   have e2:x % 16=(L:Int):=by omega
   have e3:x.tdiv 16=(H:Int):=by rw [Int.tdiv_eq_ediv_of_nonneg hx0];exact e1
   have e4:x.tmod 16=(L:Int):=by rw [Int.tmod_eq_emod_of_nonneg hx0];exact e2
   have hH1:H<16:=by omega
   have hL1:L<16:=by omega
   have hH2:(H:Int)<16:=by omega
   have hL2:(L:Int)<16:=by omega
   have HN:Hid (Bk.hvK s (k+1)=upd (upd (Bk.hvK s k) H (Bk.hvK s k H+1)) L (upd (Bk.hvK s k) H (Bk.hvK s k H+1) L+1)):=by show _=_;rw [Bk.hvK,hH,hL]
   have hb1:=Bk.Zig s k H
   have hb2:0<=upd (Bk.hvK s k) H (Bk.hvK s k H+1) L/\upd (Bk.hvK s k) H (Bk.hvK s k H+1) L<=4096:=by
    have:=Bk.Zig s k L;unfold upd;split <;> omega
   have hb3:Bk.hvK s k H<=4096:=by omega
   have hb4:=hb1.1;clear hA hA2 hH hL e1 e2 hb1;have c1:=R3.cell H hH1;have f1:=R3.frozen H;have S3:=R3.set H (Bk.hvK s k H+1);have S2:=R2.setFar (q:=g3) (by have:=hq.out;omega) H (.int .i64 (Bk.hvK s k H+1));have SB:=HB.setCell (p:=⟨g3,H,none⟩) (by have:=hq.out;show _<=g3;omega) (.int .i64 (Bk.hvK s k H+1));have c2:=S3.cell L hL1;have f2:=S3.frozen L;have T3:=S3.set L (upd (Bk.hvK s k) H (Bk.hvK s k H+1) L+1);have T2:=S2.setFar (q:=g3) (by have:=hq.out;omega) L (.int .i64 (upd (Bk.hvK s k) H (Bk.hvK s k H+1) L+1));have TB:=SB.setCell (p:=⟨g3,L,none⟩) (by have:=hq.out;show _<=g3;omega) (.int .i64 (upd (Bk.hvK s k) H (Bk.hvK s k H+1) L+1));rw [<-HN.out] at T3;generalize upd (Bk.hvK s k) H (Bk.hvK s k H+1) L=y2 at *;generalize Bk.hvK s k H=y1 at *;clear R2 R3 HB S2 S3 SB HN;go_wp2_with fail
   go_roundw
   case rel=>exact ⟨k+1,by omega,by go_num,T2,T3,TB⟩
   case measure=>simp [intOf];omega
  ·obtain rfl:k=s.size:=by omega
   rw [Hr.out] at R3;have hi1:=Zc r;have hk1:decide ((s.size:Int)<(s.size:Int))=false:=by simp
   have hk2:decide (s.size<s.size)=false:=by simp
   go_wp2_with (first | refine wpList_load_row rfl 127 _ rfl g3 rfl 127 (arr r) (0,0) _ R3.2 U127 rfl hi1 ?_ | refine wpList_store_row rfl 127 _ _ rfl w.heap.size (arr r) rfl rfl 127 _ R2.2 hi1 (by rw [Zi,Zi]) (ZW _) ?_)
   have U2:=R2.setRow r;exact bodyPost_ret (v:=.agg (arr r)) (results_cell_row Tryz.results167 _ _ w.heap.size 127 _ (0,0) _ rfl U2.2 U127 rfl hi1) rfl ⟨rfl,Zq HB (nl _) _⟩
structure Tr where
 h:Nat->Bool
 w:Int
def trc (t:Tr):Array Value:=((List.range 16).map fun i=>Value.bool (t.h i)).toArray++#[.int .i64 t.w]
theorem Zam (t:Tr):(trc t).size=17:=by simp [trc]
theorem ZsB (t:Tr) (i:Nat) (hi:i<16):(trc t)[i]?=some (.bool (t.h i)):=by
 rw [trc,Array.getElem?_append_left (by simp;exact hi)];simp [hi]
theorem ZtH (t:Tr):(trc t)[16]?=some (.int .i64 t.w):=by
 rw [trc,Array.getElem?_append_right (by simp)];simp
theorem ZpT:(Tryz.prog.info? 205).map (·.size)=some 17:=by kernel_rfl
theorem ZU (t:Tr):(Tryz.prog.info? 205).map (·.size)=some (trc t).size:=by rw [Zam];exact ZpT
theorem Zdl (t:Tr):(trc t).all (·.oneCell')=true:=by
 unfold trc;rw [Array.all_append]
 have:((List.range 16).map fun i=>Value.bool (t.h i)).toArray.all (·.oneCell')=true:=by
  rw [Array.all_eq_true_iff_forall_mem];intro v hv;simp at hv;obtain ⟨i,_,rfl⟩:=hv;rfl
 rw [this];simp [Value.oneCell']
theorem Zhs {s t:Tr} (h:∀ i,i<16->s.h i=t.h i) (hw:s.w=t.w):trc s=trc t:=by
 unfold trc;rw [hw]
 congr 2
 apply List.map_congr_left;intro i hi;rw [h i (List.mem_range.1 hi)]
def TrAt (w:World) (g:Nat) (t:Tr):Prop:=g<w.heap.size/\w.heap[g]?=some (.cells (trc t) 205 (0,0))
theorem TrAt.new (w:World) (t:Tr):TrAt (w.alloc (.cells (trc t) 205)) w.heap.size t:=⟨by simp,heap_alloc_last w _⟩
theorem TrAt.below {w w':World} {g:Nat} {t:Tr} (H:TrAt w g t) (hb:Below w.heap.size w w'):TrAt w' g t:=⟨Nat.lt_of_lt_of_le H.1 hb.size,by rw [hb.block g H.1];exact H.2⟩
theorem TrAt.alloc {w:World} {g:Nat} {t:Tr} (H:TrAt w g t) (o:Obj):TrAt (w.alloc o) g t:=H.below ((Below.refl _ _).alloc (Nat.le_refl _) o)
theorem TrAt.cellh {w:World} {g:Nat} {t:Tr} (H:TrAt w g t) (k:Nat) (hk:k<16):w.cell? ⟨g,k,none⟩=some (.bool (t.h k)):=by rw [cell_of_row w g k _ _ _ H.2,ZsB t k hk]
theorem TrAt.cellw {w:World} {g:Nat} {t:Tr} (H:TrAt w g t):w.cell? ⟨g,16,none⟩=some (.int .i64 t.w):=by rw [cell_of_row w g 16 _ _ _ H.2,ZtH t]
theorem TrAt.frozen {w:World} {g:Nat} {t:Tr} (H:TrAt w g t) (k:Nat):w.frozen? ⟨g,k,none⟩=false:=by simp [World.frozen?,H.2]
theorem TrAt.range {w:World} {g:Nat} {t:Tr} (h:TrAt w g t):w.rangeAt g 0 (trc t).toList:=by
 have:=World.rangeAt_of_block h.2 0 17
 rwa [show (trc t).extract 0 (0+17)=trc t by rw [Nat.zero_add,<-Zam t];exact Array.extract_size] at this
namespace Cd
def lsF (h:Nat->Bool):Nat->Nat->Nat
 | 0,k=>k
 | m+1,k=>if h k=true then k else lsF h m (k+1)
def ls (h:Nat->Bool):Nat:=lsF h 16 0
def lgt (s t:Tr):Bool:=if s.w=t.w then decide (ls s.h<ls t.h) else decide (s.w<t.w)
end Cd
theorem Zbp (t:Tr) (w:World) :
 Calls Tryz.prog 185 #[.agg (trc t)] w fun e w'=>e=.returned (.int .i64 (Cd.ls t.h:Nat))/\Below w.heap.size w w':=by
 have R1:=TrAt.new w t;have B1:Below w.heap.size w (w.alloc (.cells (trc t) 205)):=(bR _ _).alloc (nl _) _
 obtain ⟨r,hr⟩:∃ r,Cd.ls t.h=r:=⟨_,rfl⟩
 rw [hr];have Hr:Hid (Cd.lsF t.h 16 0=r):=hr;clear hr;go_enter Tryz.func185,Tryz.ntmps185
 go_wp2_with fail
 generalize w.alloc (.cells (trc t) 205)=w0 at *;go_loop [3] (fun i=>∃ (k m:Nat),i=.int .i64 k/\Hid (k+m=16)/\k<=16/\Hid (Cd.lsF t.h m k=r)) (fun i=>16 - (intOf i).toNat)
 case atStart=>exact ⟨0,16,rfl,rfl,by omega,Hr⟩
 case round =>
  obtain ⟨k,m,rfl,Hm,hk,HF⟩:=hrel;by_cases hlt:k<16
  ·have hk1:decide ((k:Int)<16)=true:=by simp;omega
   have hk2:decide (k<16)=true:=by simp;omega
   have hk3:(k:Int)<16:=by omega
   obtain ⟨m,rfl⟩:∃ j,m=j+1:=⟨m - 1,by have:=Hm.out;omega⟩
   have c1:=R1.cellh k hlt
   cases hb:t.h k with
   | true =>
    have h9:=HF.out;rw [Cd.lsF,if_pos hb] at h9;subst h9;rw [hb] at c1;clear hb;go_wp2_with fail
    go_ret
    exact ⟨rfl,B1⟩
   | false =>
    have h9:=HF.out;rw [Cd.lsF,if_neg (by simp [hb])] at h9;have H9:Hid (Cd.lsF t.h m (k+1)=r):=h9;rw [hb] at c1;clear hb h9;go_wp2_with fail
    exact ⟨⟨k+1,m,by go_num,by have:=Hm.out;show _=_;omega,by omega,H9⟩,by simp [intOf];omega⟩
  ·obtain rfl:k=16:=by omega
   obtain rfl:m=0:=by have:=Hm.out;omega
   have h9:=HF.out;rw [Cd.lsF] at h9;subst h9;go_wp2_with fail
   go_ret
   exact ⟨rfl,B1⟩
theorem Zhc {P:Program} {md:Region.Mode} {ops:Array Oper} {Q:Exit->Act->World->Prop} {S:World->Prop} {i:Nat} {o:Oper} {v:Value} {fuel:Nat} {listed:Array Bool} {a:Act} {w:World}
 (hr:Region.ready md ops listed=[i]) (hr2:Region.ready md ops (listed.setIfInBounds i true)=[]) (ho:ops[i]?=some o) (hy:YieldsIf P ops S o v a) (hS:S w) (h:Q .normal (a.put o.dst v) w):wpAnyH P md ops Q S (fuel+1) listed a w :=
 wpAnyH_all hr (by simp) (fun j hj=>by
  obtain rfl:j=i:=by simpa using hj
  exact hy.wpOp ho hS ⟨hS,wpAnyH_done hr2 h _⟩)
theorem Zvn (w:World) (s t:Tr):TrAt ((w.alloc (.cells (trc s) 205)).alloc (.cells (trc t) 205)) w.heap.size s/\TrAt ((w.alloc (.cells (trc s) 205)).alloc (.cells (trc t) 205)) (w.heap.size+1) t/\Below w.heap.size w ((w.alloc (.cells (trc s) 205)).alloc (.cells (trc t) 205)) :=
 ⟨(TrAt.new w s).alloc _,by have:=TrAt.new (w.alloc (.cells (trc s) 205)) t;simpa using this,((bR _ _).alloc (nl _) _).alloc (by simp) _⟩
theorem Zih (s t:Tr) (w:World) :
 Calls Tryz.prog 207 #[.agg (trc s),.agg (trc t)] w fun e w'=>e=.returned (.bool (Cd.lgt s t))/\Below w.heap.size w w':=by
 obtain ⟨R1,R2,B1⟩:=Zvn w s t;have c1:=R1.cellw;have c2:=R2.cellw;by_cases hw:s.w=t.w
 ·have h9:Cd.lgt s t=decide (Cd.ls s.h<Cd.ls t.h):=by rw [Cd.lgt,if_pos hw]
  rw [h9];have d1:(s.w != t.w)=false:=by simpa using hw
  have hl1:=fun w=>Zbp s w
  have hl2:=fun w=>Zbp t w
  have hi1:=ZU s;have hi2:=ZU t;generalize Cd.ls s.h=x at *;generalize Cd.ls t.h=y at *;generalize s.w=ws at *;generalize t.w=wt at *;clear h9 hw;go_enter Tryz.func207,Tryz.ntmps207
  go_wp2_with fail
  generalize (w.alloc (.cells (trc s) 205)).alloc (.cells (trc t) 205)=w0 at *;refine wp_region_held_drew (S:=fun w'=>TrAt w' w.heap.size s/\TrAt w' (w.heap.size+1) t) (by kernel_rfl) ⟨R1,R2⟩ (fun hS=>?_);refine wK (i:=0) (fuel:=5) rfl (by kernel_rfl) (by kernel_rfl) (by kernel_rfl) (fun _ _ _ h=>h) (yieldsIf_load_mid (by rfl) 205 _ rfl w.heap.size 0 rfl (trc s).toList _ (fun w' h'=>h'.1.range) U205 rfl (by rw [Array.length_toList];exact hi1)) hS ?_;refine wK (i:=2) (fuel:=4) rfl (by kernel_rfl) (by kernel_rfl) (by kernel_rfl) (fun _ _ _ h=>h) (yieldsIf_load_mid (by rfl) 205 _ rfl (w.heap.size+1) 0 rfl (trc t).toList _ (fun w' h'=>h'.2.range) U205 rfl (by rw [Array.length_toList];exact hi2)) hS ?_;refine wY (rs:=[1]) (fuel:=3) (by kernel_rfl) (by simp) ?_;refine rC rfl (fun K hK=>?_) rN;go_simp
  refine (hl1 _).mono ?_;rintro e w1 ⟨rfl,G1⟩;have S1:=(show TrAt w0.drew w.heap.size s from R1).below G1;have S2:=(show TrAt w0.drew (w.heap.size+1) t from R2).below G1;have B2:=bch (show Below w.heap.size w w0.drew from B1.drew) G1 (nl _);clear c1 c2 R1 R2 B1 G1 hl1;refine hK.out _ _ ⟨S1,S2⟩ (fun hS2=>?_);clear hK;refine wY (rs:=[3]) (fuel:=2) (by kernel_rfl) (by simp) ?_;refine rC rfl (fun K hK=>?_) rN;go_simp
  refine (hl2 _).mono ?_;rintro e w2 ⟨rfl,G2⟩;have B3:=bch B2 G2 (nl _);refine hK.out _ _ ⟨S1.below G2,S2.below G2⟩ (fun hS3=>?_);clear hK G2;refine wK (i:=4) (fuel:=1) (v:=.bool (decide (x<y))) rfl (by kernel_rfl) (by kernel_rfl) (by kernel_rfl) (fun _ _ _ h=>h) (Or.inl ⟨by rfl,fun w _=>by go_simp⟩) hS3 ?_;refine Zhc (i:=5) (fuel:=0) (v:=.bool (decide (x<y))) (by kernel_rfl) (by kernel_rfl) rfl (Or.inl ⟨by rfl,fun w _=>by go_simp⟩) hS3 ?_;go_wp2_with fail
  go_ret
  exact ⟨rfl,B3⟩
 ·have h9:Cd.lgt s t=decide (s.w<t.w):=by rw [Cd.lgt,if_neg hw]
  rw [h9];have d1:(s.w != t.w)=true:=by simpa using hw
  generalize s.w=ws at *;generalize t.w=wt at *;clear h9 hw;go_enter Tryz.func207,Tryz.ntmps207
  go_wp2_with fail
  go_ret
  exact ⟨rfl,B1⟩
namespace Cd
def chr (b:Bool):UInt8:=if b then 49 else 48
def str (bs:List Bool):ByteArray:=⟨(bs.map chr).toArray⟩
theorem Zad (bs:List Bool):(str bs).size=bs.length:=by
 show (bs.map chr).toArray.size=_;simp
theorem Zet (a b:List Bool):str a++str b=str (a++b):=by
 unfold str;rw [List.map_append];exact Nm.ZdN _ _
theorem ZsW (word:Int):∀ k,wb word (k+1)=wb (word / 2) k++[decide (word % 2=1)]:=by
 intro k
 induction k generalizing word with
 | zero=>simp [wb]
 | succ k ih =>
  rw [wb,ih,wb,List.cons_append,Int.ediv_ediv_of_nonneg (by omega),Int.pow_succ,Int.mul_comm 2 (2 ^ k)]
theorem Zvb (n:Int):UInt8.ofNat (48+n % 2).toNat=chr (decide (n % 2=1)):=by
 have h:n % 2=0\/n % 2=1:=by omega
 rcases h with h | h <;> rw [h] <;> rfl
end Cd
theorem ZeO (k:Nat):∀ (n:Int) (w:World),0<=n->n<=1048576->k<=15 →
 Calls Tryz.prog 140 #[.int .i64 n,.int .i64 (k:Int)] w fun e w'=>e=.returned (.string (Cd.str (Cd.wb n k)))/\Below w.heap.size w w':=by
 induction k with
 | zero =>
  intro n w h0 hn _;go_enter Tryz.func140,Tryz.ntmps140
  go_wp2_with fail
  go_ret
  exact ⟨rfl,bR _ _⟩
 | succ k ih =>
  intro n w h0 hn hk;have hcv:=Zbo (48+n % 2) (by omega) (by omega)
  have IH:Hid (∀ (n:Int) (w:World),0<=n->n<=1048576->k<=15 →
   Calls Tryz.prog 140 #[.int .i64 n,.int .i64 (k:Int)] w fun e w'=>e=.returned (.string (Cd.str (Cd.wb n k)))/\Below w.heap.size w w'):=ih
  clear ih;have hl:(Cd.str (Cd.wb (n / 2) k)).size<=15:=by rw [Cd.Zad,Cd.ZdB];omega
  have HN:Hid (Cd.str (Cd.wb n (k+1))=Cd.str (Cd.wb (n / 2) k)++⟨#[UInt8.ofNat (48+n % 2).toNat]⟩):=by
   show _=_;rw [Cd.ZsW,<-Cd.Zet,Cd.Zvb];rfl
  obtain ⟨K,hK⟩:∃ K:Int,((k+1:Nat):Int)=K:=⟨_,rfl⟩
  rw [hK];have hK0:(K == 0)=false:=by simp;omega
  have hK1:K - 1=(k:Int):=by omega
  have hr1:IntKind.i64.wrap (48+n % 2)=48+n % 2:=IntWalk.i64_in _ ⟨by omega,by omega⟩;have hr3:n.tmod 2=n % 2:=Int.tmod_eq_emod_of_nonneg h0;have hr4:n.tdiv 2=n / 2:=Int.tdiv_eq_ediv_of_nonneg h0;have hr5:IntKind.i64.wrap (n / 2)=n / 2:=IntWalk.i64_in _ ⟨by omega,by omega⟩;have hr6:IntKind.i64.wrap (k:Int)=(k:Int):=IntWalk.i64_in _ ⟨by omega,by omega⟩;have hr2:IntKind.u8.wrap (48+n % 2)=48+n % 2:=IntWalk.u8_in _ ⟨by omega,by omega⟩;clear hK;go_enter Tryz.func140,Tryz.ntmps140
  go_wp2_with fail
  go_region_with (go_at_call 140;refine (IH.out _ _ (by omega) (by omega) (by omega)).mono ?_;rintro e w1 ⟨rfl,hB⟩;have hk1:=Zuc hB)
  all_goals go_wp2
  all_goals go_ret
  all_goals refine ⟨?_,?_⟩
  all_goals first | exact congrArg (fun s=>Ending.returned (Value.string s)) HN.out.symm | skip
  all_goals first | exact bch ((bR _ _).alloc (nl _) _).drew hB (nl _) | exact bch (bR _ _).drew hB (nl _) | exact (bch (bR _ _).drew hB (nl _)).alloc hB.size _ | skip
def arrS (h:Nat->ByteArray):Array Value:=((List.range 16).map fun i=>Value.string (h i)).toArray
theorem Zbn (h:Nat->ByteArray):(arrS h).size=16:=by simp [arrS]
theorem ZiL (h:Nat->ByteArray) (i:Nat) (hi:i<16):(arrS h)[i]?=some (.string (h i)):=by simp [arrS,hi]
theorem Zmd:(Tryz.prog.info? 160).map (·.size)=some 16:=by kernel_rfl
theorem Zdv (h:Nat->ByteArray):(Tryz.prog.info? 160).map (·.size)=some (arrS h).size:=by rw [Zbn];exact Zmd
theorem Zlk {h g:Nat->ByteArray} (e:∀ i,i<16->h i=g i):arrS h=arrS g:=by
 unfold arrS
 congr 1
 apply List.map_congr_left;intro i hi;rw [e i (List.mem_range.1 hi)]
def updB (h:Nat->ByteArray) (k:Nat) (v:ByteArray):Nat->ByteArray:=fun i=>if i=k then v else h i
theorem ZoV (h:Nat->ByteArray) (k:Nat) (v:ByteArray):(arrS h).setIfInBounds k (.string v)=arrS (updB h k v):=by
 apply Array.ext_getElem?;intro i;rw [Array.getElem?_setIfInBounds,Zbn];by_cases hi:i<16
 ·rw [ZiL _ i hi,ZiL _ i hi];by_cases e:k=i
  ·subst e;simp [updB,hi]
  ·have e':¬ i=k:=fun h=>e h.symm
   simp [updB,e,e']
 ·have h1:(arrS h)[i]?=none:=by rw [Array.getElem?_eq_none];rw [Zbn];omega
  have h2:(arrS (updB h k v))[i]?=none:=by rw [Array.getElem?_eq_none];rw [Zbn];omega
  rw [h1,h2];split
  ·rename_i e;subst e;simp [hi]
  ·rfl
theorem ZeJ:(#[.string ⟨#[]⟩,.string ⟨#[]⟩,.string ⟨#[]⟩,.string ⟨#[]⟩,.string ⟨#[]⟩,.string ⟨#[]⟩,.string ⟨#[]⟩,.string ⟨#[]⟩,.string ⟨#[]⟩,.string ⟨#[]⟩,.string ⟨#[]⟩,.string ⟨#[]⟩,.string ⟨#[]⟩,.string ⟨#[]⟩,.string ⟨#[]⟩,.string ⟨#[]⟩]:Array Value)=arrS (fun _=>⟨#[]⟩):=rfl
theorem ZfO (h:Nat->ByteArray):(arrS h).all (·.oneCell')=true:=by
 rw [Array.all_eq_true_iff_forall_mem];intro v hv;simp [arrS] at hv;obtain ⟨i,_,rfl⟩:=hv;rfl
def StAt (w:World) (g:Nat) (h:Nat->ByteArray):Prop:=g<w.heap.size/\w.heap[g]?=some (.cells (arrS h) 160 (0,0))
theorem StAt.new (w:World) (h:Nat->ByteArray):StAt (w.alloc (.cells (arrS h) 160)) w.heap.size h:=⟨by simp,heap_alloc_last w _⟩
theorem StAt.below {w w':World} {g:Nat} {h:Nat->ByteArray} (H:StAt w g h) (hb:Below w.heap.size w w'):StAt w' g h:=⟨Nat.lt_of_lt_of_le H.1 hb.size,by rw [hb.block g H.1];exact H.2⟩
theorem StAt.alloc {w:World} {g:Nat} {h:Nat->ByteArray} (H:StAt w g h) (o:Obj):StAt (w.alloc o) g h:=H.below ((Below.refl _ _).alloc (Nat.le_refl _) o)
theorem StAt.cell {w:World} {g:Nat} {h:Nat->ByteArray} (H:StAt w g h) (k:Nat) (hk:k<16):w.cell? ⟨g,k,none⟩=some (.string (h k)):=by rw [cell_of_row w g k _ _ _ H.2,ZiL h k hk]
theorem StAt.frozen {w:World} {g:Nat} {h:Nat->ByteArray} (H:StAt w g h) (k:Nat):w.frozen? ⟨g,k,none⟩=false:=by simp [World.frozen?,H.2]
theorem StAt.set {w:World} {g:Nat} {h:Nat->ByteArray} (H:StAt w g h) (k:Nat) (v:ByteArray):StAt (w.setCell ⟨g,k,none⟩ (.string v)) g (updB h k v):=by
 refine ⟨by have:=H.1;simpa [World.setCell] using this,?_⟩;rw [Zda H.2,ZoV]
theorem StAt.setFar {w:World} {g:Nat} {h:Nat->ByteArray} (H:StAt w g h) {q:Nat} (hq:q ≠ g) (k:Nat) (v:Value):StAt (w.setCell ⟨q,k,none⟩ v) g h:=by
 refine ⟨by have:=H.1;simpa [World.setCell] using this,?_⟩;rw [ZcW hq];exact H.2
theorem StAt.setRow {w:World} {g:Nat} {h:Nat->ByteArray} (H:StAt w g h) (h':Nat->ByteArray):StAt (w.setRow g (arrS h')) g h':=by
 refine ⟨by have:=H.1;simpa [World.setRow] using this,?_⟩;show (w.heap.modify g _)[g]?=_;rw [Array.getElem?_modify,if_pos rfl,H.2];rfl
theorem StAt.congr {w:World} {g:Nat} {h h':Nat->ByteArray} (H:StAt w g h) (e:∀ i,i<16->h i=h' i):StAt w g h':=⟨H.1,by rw [H.2,Zlk e]⟩
namespace Cd
def oS (f:Nat->Int) (n k:Nat) (i:Nat):ByteArray:=if (1<=f i/\f i<=(n:Int))\/(f i=((n+1:Nat):Int)/\i<k) then str (cw f i) else ⟨#[]⟩
theorem ZsF (f:Nat->Int) (h:InR f 15 16) (i:Nat) (hi:i<16):(⟨#[]⟩:ByteArray)=oS f 0 0 i:=by
 have:=h i hi;rw [oS,if_neg (by omega)]
theorem ZsU (f:Nat->Int) (n k:Nat) (h:f k=((n+1:Nat):Int)) (i:Nat):updB (oS f n k) k (str (cw f k)) i=oS f n (k+1) i:=by
 unfold updB oS;by_cases e:i=k
 ·subst e;rw [if_pos rfl,if_pos (by omega)]
 ·rw [if_neg e];by_cases h1:(1<=f i/\f i<=(n:Int))\/(f i=((n+1:Nat):Int)/\i<k)
  ·rw [if_pos h1,if_pos (by omega)]
  ·rw [if_neg h1,if_neg (by omega)]
theorem Ztv (f:Nat->Int) (n k:Nat) (h:¬ f k=((n+1:Nat):Int)) (i:Nat):oS f n k i=oS f n (k+1) i:=by
 unfold oS;by_cases e:i=k
 ·subst e;by_cases h1:1<=f i/\f i<=(n:Int)
  ·rw [if_pos (.inl h1),if_pos (.inl h1)]
  ·rw [if_neg (by omega),if_neg (by omega)]
 ·by_cases h1:(1<=f i/\f i<=(n:Int))\/(f i=((n+1:Nat):Int)/\i<k)
  ·rw [if_pos h1,if_pos (by omega)]
  ·rw [if_neg h1,if_neg (by omega)]
theorem Zth (f:Nat->Int) (n:Nat) (i:Nat) (hi:i<16):oS f n 16 i=oS f (n+1) 0 i:=by
 unfold oS;by_cases h1:(1<=f i/\f i<=(n:Int))\/(f i=((n+1:Nat):Int)/\i<16)
 ·rw [if_pos h1,if_pos (by omega)]
 ·rw [if_neg h1,if_neg (by omega)]
theorem Zui (f:Nat->Int) (h:InR f 15 16) (i:Nat) (hi:i<16):oS f 15 0 i=str (cw f i):=by
 have:=h i hi;unfold oS;by_cases h0:f i=0
 ·rw [if_neg (by omega),cw,h0];rfl
 ·rw [if_pos (by omega)]
theorem ZtT (f:Nat->Int) (n:Int) (x:Int × (Nat->Int)) (k:Nat) (h:f k=n):∀ j,(wI f n x (k+1+j)).2 k=(wI f n x k).1:=by
 intro j
 induction j with
 | zero=>rw [Nat.add_zero,wI,if_pos h];exact ZD _ _ _
 | succ j ih =>
  rw [<-Nat.add_assoc,wI];split
  ·simp only;rw [Zg _ _ (by omega)];exact ih
  ·exact ih
theorem ZuH {f:Nat->Int} {n k:Nat} (hk:k<16) (hn:n+1<=15) (h:f k=((n+1:Nat):Int)):wds f k=(wI f ((n+1:Nat):Int) ((wO f n).1*2,(wO f n).2) k).1:=by
 have h1:=ZfZ f k n h (15 - (n+1));rw [show n+1+(15 - (n+1))=15 by omega] at h1;rw [wds,h1,wO];have h2:=ZtT f ((n+1:Nat):Int) ((wO f n).1*2,(wO f n).2) k h (15 - k);rw [show k+1+(15 - k)=16 by omega] at h2;exact h2
end Cd
theorem ZtS (w:World) (f:Nat->Int):RowAt (((w.alloc (.cells (arr f) 127)).alloc (.cells (arrS fun _=>⟨#[]⟩) 160)).alloc (.cells (arrS fun _=>⟨#[]⟩) 160)) w.heap.size f ∧
 StAt (((w.alloc (.cells (arr f) 127)).alloc (.cells (arrS fun _=>⟨#[]⟩) 160)).alloc (.cells (arrS fun _=>⟨#[]⟩) 160)) (w.heap.size+1) (fun _=>⟨#[]⟩) ∧
 StAt (((w.alloc (.cells (arr f) 127)).alloc (.cells (arrS fun _=>⟨#[]⟩) 160)).alloc (.cells (arrS fun _=>⟨#[]⟩) 160)) (w.heap.size+1+1) (fun _=>⟨#[]⟩) ∧
 Below w.heap.size w (((w.alloc (.cells (arr f) 127)).alloc (.cells (arrS fun _=>⟨#[]⟩) 160)).alloc (.cells (arrS fun _=>⟨#[]⟩) 160)):=by
 have a:=StAt.new (w.alloc (.cells (arr f) 127)) (fun _=>⟨#[]⟩);have b:=StAt.new ((w.alloc (.cells (arr f) 127)).alloc (.cells (arrS fun _=>⟨#[]⟩) 160)) (fun _=>⟨#[]⟩);refine ⟨((RowAt.new w f).alloc _).alloc _,?_,?_,(((bR _ _).alloc (nl _) _).alloc (by simp) _).alloc (by simp;omega) _⟩
 ·have:=a.alloc (.cells (arrS fun _=>⟨#[]⟩) 160);simpa using this
 ·simpa using b
theorem ZdK (f:Nat->Int) (w:World) (hR:Cd.InR f 15 16) :
 Calls Tryz.prog 141 #[.agg (arr f)] w fun e w'=>e=.returned (.agg (arrS fun i=>Cd.str (Cd.cw f i)))/\Below w.heap.size w w':=by
 obtain ⟨R1,R2,R3,HB⟩:=ZtS w f;rw [<-ZeJ] at R1 R2 R3 HB;have HR:Hid (Cd.InR f 15 16):=hR;clear hR
 obtain ⟨hS,hSe⟩:∃ h,(fun i=>Cd.str (Cd.cw f i))=h:=⟨_,rfl⟩
 rw [hSe];have HS:Hid ((fun i=>Cd.str (Cd.cw f i))=hS):=hSe;clear hSe;go_enter Tryz.func141,Tryz.ntmps141
 go_wp2_with fail
 rw [ZeJ] at R1 R2 R3 HB;rw [ZeJ];generalize ((w.alloc (.cells (arr f) 127)).alloc (.cells (arrS fun _=>⟨#[]⟩) 160)).alloc (.cells (arrS fun _=>⟨#[]⟩) 160)=w0 at *
 obtain ⟨g1,hg1⟩:∃ g1,g1=w.heap.size:=⟨_,rfl⟩
 have hq1:Hid (g1<w.heap.size+1/\w.heap.size+1<w.heap.size+1+1/\w.heap.size<=g1):=by show _/\_/\_;omega
 generalize w.heap.size+1+1=g3 at *;generalize w.heap.size+1=g2 at *;clear hg1;have R3':=R3.congr (h':=Cd.oS f 0 0) (fun i hi=>Cd.ZsF f HR.out i hi);go_loopw [4,5,6] (fun x l i wr=>∃ (n:Nat) (N1 X L:Int),n<=15/\i=.int .i64 N1/\Hid (N1=(n+1:Nat))/\x=.int .i64 X/\l=.int .i64 L/\0<=X/\0<=L/\Hid (L<=n/\X*2 ^ (n - L.toNat)=(Cd.wO f n).1)/\RowAt wr w.heap.size f/\StAt wr g2 (fun _=>⟨#[]⟩)/\StAt wr g3 (Cd.oS f n 0)/\Below w.heap.size w wr) (fun _ _ i _=>20 - (intOf i).toNat)
 case atStart=>exact ⟨0,1,0,0,by omega,rfl,rfl,rfl,rfl,by omega,by omega,⟨by omega,by simp [Cd.wO]⟩,R1,R2,R3',HB⟩
 case round =>
  clear R1 R2 R3 R3' HB;obtain ⟨n,N1,X,L,hn,rfl,HN1,rfl,rfl,hX,hL,HX,R1,R2,R3,HB⟩:=hrel;have hNb:1<=N1/\N1<=16:=by have:=HN1.out;omega
  by_cases hlt:n<15
  ·have hk1:decide (N1<=15)=true:=by have:=HN1.out;simp;omega
   have Hn:Hid (n<15):=hlt
   have HX0:Hid (L<=((n+1:Nat):Int)/\X*2 ^ (n+1 - L.toNat)=(Cd.wI f ((n+1:Nat):Int) ((Cd.wO f n).1*2,(Cd.wO f n).2) 0).1):=by
    obtain ⟨h1,h2⟩:=HX.out;refine ⟨by omega,?_⟩;show _=(Cd.wO f n).1*2;rw [<-h2,show n+1 - L.toNat=(n - L.toNat)+1 by omega,Int.pow_succ,Int.mul_assoc]
   clear hn hlt;go_wp2_with fail
   go_loopw [4,5,7] (fun x l i wr=>∃ (k:Nat) (X L:Int),k<=16/\i=.int .i64 k/\x=.int .i64 X/\l=.int .i64 L/\0<=X/\0<=L/\Hid (L<=((n+1:Nat):Int)/\X*2 ^ (n+1 - L.toNat)=(Cd.wI f ((n+1:Nat):Int) ((Cd.wO f n).1*2,(Cd.wO f n).2) k).1)/\RowAt wr w.heap.size f/\StAt wr g2 (fun _=>⟨#[]⟩)/\StAt wr g3 (Cd.oS f n k)/\Below w.heap.size w wr) (fun _ _ i _=>16 - (intOf i).toNat)
   case atStart=>exact ⟨0,X,L,by omega,rfl,rfl,rfl,hX,hL,HX0,R1,R2,R3,HB⟩
   case round =>
    clear R1 R2 R3 HB HX HX0 hX hL;obtain ⟨k,X,L,hk,rfl,rfl,rfl,hX,hL,HX,R1,R2,R3,HB⟩:=hrel;by_cases hlt2:k<16
    ·have hk2:decide ((k:Int)<16)=true:=by simp;omega
     have hk3:decide (k<16)=true:=by simp;omega
     have hc1:=R1.cell k hlt2;by_cases hx:f k=N1
     ·have d1:(f k == N1)=true:=by simpa using hx
      have hfn:f k=((n+1:Nat):Int):=by rw [hx];exact HN1.out
      have hw:=Cd.ZuH hlt2 (by have:=Hn.out;omega) hfn;have hwv:=Cd.Zom f k
      obtain ⟨d,hd⟩:∃ d:Nat,n+1 - L.toNat=d:=⟨_,rfl⟩
      have hNL:N1 - L=(d:Int):=by have:=HN1.out;have:=HX.out.1;omega
      have hXd:X*2 ^ d=Cd.wds f k:=by rw [hw,<-HX.out.2,hd]
      have hbt:=fun w=>ZeO (n+1) (Cd.wds f k) w hwv.1 hwv.2 (by have:=Hn.out;omega)
      rw [<-HN1.out] at hbt;have hcw:Cd.wb (Cd.wds f k) (n+1)=Cd.cw f k:=by rw [Cd.cw,hfn];rfl
      rw [hcw] at hbt;have R4:=fun wx (h:StAt wx g3 (Cd.oS f n k))=>(h.set k (Cd.str (Cd.cw f k))).congr (fun i _=>Cd.ZsU f n k hfn i)
      have HW:Hid ((n+1:Nat)<=((n+1:Nat):Int)/\(Cd.wds f k+1)*2 ^ (n+1 - (n+1))=(Cd.wI f ((n+1:Nat):Int) ((Cd.wO f n).1*2,(Cd.wO f n).2) (k+1)).1):=by
       refine ⟨by omega,?_⟩;rw [Cd.wI,if_pos hfn,Nat.sub_self,Int.pow_zero,Int.mul_one,hw]
      generalize Cd.str (Cd.cw f k)=sk at *;generalize f k=z at *;clear hfn hw hcw;have hLN:L<=N1:=by omega
      have hd15:d<=15:=by have:=HN1.out;have:=Hn.out;omega
      clear hd;generalize Cd.wds f k=wk at *;go_wp2_with fail
      refine (hbt _).mono ?_;rintro e w4 ⟨rfl,G4⟩;have T1:=R1.below G4;have T2:=R2.below G4;have T3:=R3.below G4;have B4:=bch HB G4 (nl _);have hc3:=T3.cell k hlt2;have hf3:=T3.frozen k;have U3:=R4 _ T3;have U1:=T1.setFar (q:=g3) (by have:=hq1.out;omega) k (.string sk);have U2:=T2.setFar (q:=g3) (by have:=hq1.out;omega) k (.string sk);have B5:=B4.setCell (p:=⟨g3,k,none⟩) (by have:=hq1.out;show _<=g3;omega) (.string sk);clear R1 R2 R3 HB G4 T1 T2 T3 B4 R4 hbt hx;go_wp2_with fail
      go_roundw
      case rel=>exact ⟨k+1,wk+1,N1,by omega,by go_num,rfl,rfl,by omega,by omega,by rw [HN1.out];exact ⟨HW.out.1,by rw [Int.toNat_natCast];exact HW.out.2⟩,U1,U2,U3,B5⟩
      case measure=>simp [intOf];omega
     ·have d1:(f k == N1)=false:=by simpa using hx
      have HS:Hid (¬ f k=((n+1:Nat):Int)):=fun h=>hx (by rw [h];exact HN1.out.symm)
      have HW:Hid (L<=((n+1:Nat):Int)/\X*2 ^ (n+1 - L.toNat)=(Cd.wI f ((n+1:Nat):Int) ((Cd.wO f n).1*2,(Cd.wO f n).2) (k+1)).1):=by
       refine ⟨HX.out.1,?_⟩;rw [Cd.wI,if_neg HS.out];exact HX.out.2
      have R4:=R3.congr (h':=Cd.oS f n (k+1)) (fun i _=>Cd.Ztv f n k HS.out i);generalize f k=z at *;clear hx HS;go_wp2_with fail
      go_roundw
      case rel=>exact ⟨k+1,X,L,by omega,by go_num,rfl,rfl,hX,hL,HW,R1,R2,R4,HB⟩
      case measure=>simp [intOf];omega
    ·obtain rfl:k=16:=by omega
     have R4:=R3.congr (h':=Cd.oS f (n+1) 0) (fun i hi=>Cd.Zth f n i hi);have HW:Hid (L<=((n+1:Nat):Int)/\X*2 ^ (n+1 - L.toNat)=(Cd.wO f (n+1)).1):=HX.out;have HNn:Hid (N1+1=(n+1+1:Nat)):=by have:=HN1.out;show _=_;omega
     go_wp2_with fail
     go_roundw
     case rel=>exact ⟨n+1,N1+1,X,L,by have:=Hn.out;omega,by go_num,HNn,rfl,rfl,hX,hL,HW,R1,R2,R4,HB⟩
     case measure=>simp [intOf];omega
  ·obtain rfl:n=15:=by omega
   obtain rfl:N1=16:=by have:=HN1.out;omega
   have R4:StAt wr g3 hS:=R3.congr (fun i hi=>by rw [Cd.Zui f HR.out i hi,<-HS.out]);have hi1:=Zdv hS;clear R3;go_wp2_with (first | refine wpList_load_row rfl 160 _ rfl g3 rfl 160 (arrS hS) (0,0) _ R4.2 U160 rfl hi1 ?_ | refine wpList_store_row rfl 160 _ _ rfl g2 (arrS hS) rfl rfl 160 _ R2.2 hi1 (by rw [Zbn,Zbn]) (ZfO _) ?_)
   have U2:=R2.setRow hS;exact bodyPost_ret (v:=.agg (arrS hS)) (results_cell_row Tryz.results141 _ _ g2 160 _ (0,0) _ rfl U2.2 U160 rfl hi1) rfl ⟨rfl,Zq HB (by have:=hq1.out;omega) _⟩
end Go.Proofs.YtbjbjbpgmojcbabGreat
