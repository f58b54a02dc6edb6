/- A part of the proof: what it leans on. -/
import Derived.Test.YtbjbjbpgmojcbacGreatLk07
namespace Go.Proofs.YtbjbjbpgmojcbacGreat.Cd
theorem Zbc {g h:Nat->Int}:∀ k,(∀ i,i<k->g i=h i)->tot g k=tot h k:=by
 intro k
 induction k with
 | zero=>intro _;rfl
 | succ k ih=>intro e;rw [tot,tot,ih (fun i hi=>e i (by omega)),e k (by omega)]
theorem Zcg {g h:Nat->Int} {p:Nat}:∀ k,p<k->(∀ i,i<k->i ≠ p->g i=h i)->tot g k+h p=tot h k+g p:=by
 intro k
 induction k with
 | zero=>intro h;omega
 | succ k ih =>
  intro hp e;rw [tot,tot];by_cases hk:p=k
  ·subst hk;rw [Zbc p (fun i hi=>e i (by omega) (by omega))];omega
  ·have h1:=ih (by omega) (fun i hi=>e i (by omega));have h2:=e k (by omega) (by omega);omega
theorem Zct {g h:Nat->Int} {p q k:Nat} (hp:p<k) (hq:q<k) (hne:p ≠ q) (e:∀ i,i<k->i ≠ p->i ≠ q->g i=h i):tot g k+h p+h q=tot h k+g p+g q:=by
 have h1:tot g k+upd g p (h p) p=tot (upd g p (h p)) k+g p:=Zcg k hp (fun i _ hi=>(Zg g _ hi).symm)
 have h2:tot (upd g p (h p)) k+h q=tot h k+upd g p (h p) q:=Zcg k hq (fun i hi h9=>by
  by_cases h8:i=p
  ·subst h8;exact ZC _ _ _
  ·rw [Zg _ _ h8];exact e i hi h8 h9)
 rw [ZC] at h1;rw [Zg _ _ (fun e=>hne e.symm)] at h2;omega
theorem Zrp {g:Nat->Int} {d:Int}:∀ k,(∀ i,i<k->d ∣ g i)->d ∣ tot g k:=by
 intro k
 induction k with
 | zero=>intro _;exact ⟨0,by simp [tot]⟩
 | succ k ih=>intro h;rw [tot];exact Int.dvd_add (ih (fun i hi=>h i (by omega))) (h k (by omega))
theorem ZnH (R:Nat->Nat) (P:Nat->Prop):∀ k,(∃ i,i<k/\P i)->∃ a,a<k/\P a/\∀ i,i<k->P i->R i<=R a:=by
 intro k
 induction k with
 | zero=>rintro ⟨i,h,_⟩;omega
 | succ k ih =>
  rintro ⟨i,hi,hP⟩;by_cases h:∃ i,i<k/\P i
  ·obtain ⟨a,ha,hPa,hm⟩:=ih h;by_cases hk:P k/\R a<R k
   ·refine ⟨k,by omega,hk.1,fun j hj hPj=>?_⟩;by_cases e:j=k
    ·subst e;exact nl _
    ·have:=hm j (by omega) hPj;omega
   ·refine ⟨a,by omega,hPa,fun j hj hPj=>?_⟩;by_cases e:j=k
    ·subst e;have h9:¬ R a<R j:=fun h8=>hk ⟨hPj,h8⟩
     omega
    ·exact hm j (by omega) hPj
  ·obtain rfl:i=k:=by
    by_cases e:i=k
    ·exact e
    ·exact absurd ⟨i,by omega,hP⟩ h
   refine ⟨i,by omega,hP,fun j hj hPj=>?_⟩;by_cases e:j=i
   ·subst e;exact nl _
   ·exact absurd ⟨j,by omega,hPj⟩ h
def kr (W:Nat->Int) (R:Nat->Nat) (M:Nat) (i:Nat):Int:=if W i=0 then 0 else 2 ^ (M - R i)
def cs (W:Nat->Int) (R:Nat->Nat) (i:Nat):Int:=W i*(R i:Int)
def updN (f:Nat->Nat) (k v:Nat):Nat->Nat:=fun i=>if i=k then v else f i
theorem ZJ (f:Nat->Nat) (k v:Nat):updN f k v k=v:=by simp [updN]
theorem Zt (f:Nat->Nat) {k i:Nat} (v:Nat) (h:i ≠ k):updN f k v i=f i:=by simp [updN,h]
theorem ZtK (W:Nat->Int) (R:Nat->Nat) (M i:Nat):0<=kr W R M i:=by
 unfold kr;split
 ·exact Int.le_refl _
 ·have:=pow_pos (M - R i);omega
theorem ZaB {W:Nat->Int} {R:Nat->Nat} {M i:Nat} (h:W i ≠ 0):kr W R M i=2 ^ (M - R i):=by rw [kr,if_neg h]
structure Fit (W:Nat->Int) (M:Nat) (R:Nat->Nat):Prop where
 le:∀ i,i<16->W i ≠ 0->R i<=M
 sum:tot (kr W R M) 16<=2 ^ M
theorem ZnU (a b:Nat):(2:Int) ^ (a+b)=2 ^ a*2 ^ b:=Int.pow_add ..
theorem ZrN {W:Nat->Int} {M:Nat} {R:Nat->Nat} (hW:∀ i,i<16->0<=W i) (h:Fit W M R) {p q:Nat} (hp:p<16) (hq:q<16) (hne:p ≠ q) (np:W p ≠ 0) (nq:W q ≠ 0) :
 ∃ R1 y a b,Fit W M R1/\tot (cs W R1) 16<=tot (cs W R) 16/\a<16/\b<16/\a ≠ b/\W a ≠ 0/\W b ≠ 0/\R1 a=y/\R1 b=y/\∀ i,i<16->W i ≠ 0->R1 i<=y:=by
 obtain ⟨a,ha,na,ma⟩:=ZnH R (fun i=>W i ≠ 0) 16 ⟨p,hp,np⟩
 obtain ⟨b,hb,nb,mb⟩:=ZnH R (fun i=>W i ≠ 0/\i ≠ a) 16 (by
  by_cases e:p=a
  ·exact ⟨q,hq,nq,by omega⟩
  ·exact ⟨p,hp,np,e⟩)
 have hyM:=h.le b hb nb.1;have hxM:=h.le a ha na;refine ⟨updN R a (R b),R b,a,b,⟨?_,?_⟩,?_,ha,hb,fun e=>nb.2 e.symm,na,nb.1,ZJ _ _ _,Zt _ _ nb.2,?_⟩
 ·intro i hi ni;by_cases e:i=a
  ·subst e;rw [ZJ];exact hyM
  ·rw [Zt _ _ e];exact h.le i hi ni
 ·
  have c1:=Zcg (g:=kr W (updN R a (R b)) M) (h:=upd (kr W R M) a 0) (p:=a) 16 ha (fun i _ e=>by rw [Zg _ _ e,kr,kr,Zt _ _ e]);have c2:=Zcg (g:=kr W R M) (h:=upd (kr W R M) a 0) (p:=a) 16 ha (fun i _ e=>by rw [Zg _ _ e]);rw [ZC] at c1 c2;rw [ZaB (R:=updN R a (R b)) na,ZJ] at c1;rw [ZaB na] at c2
  have hd:(2:Int) ^ (M - R b) ∣ tot (upd (kr W R M) a 0) 16:=Zrp 16 (fun i hi=>by
   by_cases e:i=a
   ·subst e;rw [ZC];exact ⟨0,by simp⟩
   ·rw [Zg _ _ e,kr];split
    ·exact ⟨0,by simp⟩
    ·rename_i ni
     have:=mb i hi ⟨ni,e⟩
     exact ⟨2 ^ (R b - R i),by rw [<-ZnU];congr 1;omega⟩)
  obtain ⟨j,hj⟩:=hd;have hs:=h.sum;have h1:=pow_pos (M - R a);have h2:=pow_pos (M - R b);have hM:(2:Int) ^ M=2 ^ (M - R b)*2 ^ R b:=by rw [<-ZnU];congr 1;omega
  generalize (2:Int) ^ (M - R b)=u at *;generalize (2:Int) ^ R b=v at *;have hlt:u*j<u*v:=by omega
  have hjv:j<v:=Int.lt_of_mul_lt_mul_left hlt (by omega);have h3:u*(j+1)<=u*v:=Int.mul_le_mul_of_nonneg_left (by omega) (by omega);rw [Int.mul_add,Int.mul_one] at h3;omega
 ·have c1:=Zcg (g:=cs W (updN R a (R b))) (h:=cs W R) (p:=a) 16 ha (fun i _ e=>by rw [cs,cs,Zt _ _ e])
  have h1:cs W (updN R a (R b)) a<=cs W R a:=by
   unfold cs;rw [ZJ];exact Int.mul_le_mul_of_nonneg_left (by have:=ma b hb nb.1;omega) (hW a ha)
  omega
 ·intro i hi ni;by_cases e:i=a
  ·subst e;rw [ZJ];exact nl _
  ·rw [Zt _ _ e];exact mb i hi ⟨ni,e⟩
theorem Zjn {W:Nat->Int} {M:Nat} {R:Nat->Nat} (h:Fit W M R) {p a:Nat} (hp:p<16) (ha:a<16) (hne:p ≠ a) (np:W p ≠ 0) (na:W a ≠ 0) (hw:W p<=W a) (hr:R p<=R a) :
 Fit W M (updN (updN R p (R a)) a (R p))/\tot (cs W (updN (updN R p (R a)) a (R p))) 16<=tot (cs W R) 16:=by
 have ep:updN (updN R p (R a)) a (R p) p=R a:=by rw [Zt _ _ hne,ZJ]
 have ea:updN (updN R p (R a)) a (R p) a=R p:=ZJ _ _ _;have eo:∀ i,i ≠ p->i ≠ a->updN (updN R p (R a)) a (R p) i=R i:=fun i h1 h2=>by rw [Zt _ _ h2,Zt _ _ h1]
 generalize updN (updN R p (R a)) a (R p)=R1 at *;refine ⟨⟨fun i hi ni=>?_,?_⟩,?_⟩
 ·by_cases e1:i=p
  ·subst e1;rw [ep];exact h.le a ha na
  ·by_cases e2:i=a
   ·subst e2;rw [ea];exact h.le p hp np
   ·rw [eo i e1 e2];exact h.le i hi ni
 ·have c:=Zct (g:=kr W R1 M) (h:=kr W R M) hp ha hne (fun i _ h1 h2=>by rw [kr,kr,eo i h1 h2]);rw [ZaB np,ZaB na,ZaB np,ZaB na,ep,ea] at c;have:=h.sum;omega
 ·have c:=Zct (g:=cs W R1) (h:=cs W R) hp ha hne (fun i _ h1 h2=>by rw [cs,cs,eo i h1 h2]);unfold cs at c |-
  rw [ep,ea] at c;have h1:0<=(W a - W p)*((R a:Int) - (R p:Int)):=Int.mul_nonneg (by omega) (by omega);rw [Int.sub_mul,Int.mul_sub,Int.mul_sub] at h1;omega
theorem Zpo {W:Nat->Int} {M:Nat} {R:Nat->Nat} (hW:∀ i,i<16->0<=W i) (h:Fit W M R) {p q:Nat} (hp:p<16) (hq:q<16) (hne:p ≠ q) (np:W p ≠ 0) (nq:W q ≠ 0)
 (lp:∀ i,i<16->W i ≠ 0->W p<=W i) (lq:∀ i,i<16->W i ≠ 0->i ≠ p->W q<=W i) :
 ∃ R1 y,Fit W M R1/\tot (cs W R1) 16<=tot (cs W R) 16/\R1 p=y/\R1 q=y:=by
 obtain ⟨R1,y,a,b,f1,c1,ha,hb,hab,na,nb,ea,eb,mx⟩:=ZrN hW h hp hq hne np nq
 have s1:∃ R2 b,Fit W M R2/\tot (cs W R2) 16<=tot (cs W R1) 16/\R2 p=y/\b<16/\b ≠ p/\W b ≠ 0/\R2 b=y/\∀ i,i<16->W i ≠ 0->R2 i<=y:=by
  by_cases e:R1 p=y
  ·by_cases e2:b=p
   ·exact ⟨R1,a,f1,Int.le_refl _,e,ha,by omega,na,ea,mx⟩
   ·exact ⟨R1,b,f1,Int.le_refl _,e,hb,e2,nb,eb,mx⟩
  ·have hpa:p ≠ a:=fun h=>e (by rw [h];exact ea)
   have hpb:b ≠ p:=fun h=>e (by rw [<-h];exact eb)
   obtain ⟨f2,c2⟩:=Zjn f1 hp ha hpa np na (lp a ha na) (by rw [ea];exact mx p hp np);refine ⟨_,b,f2,c2,by rw [Zt _ _ hpa,ZJ,ea],hb,hpb,nb,by rw [Zt _ _ (fun e=>hab e.symm),Zt _ _ hpb];exact eb,fun i hi ni=>?_⟩;by_cases e1:i=a
   ·subst e1;rw [ZJ];exact mx p hp np
   ·rw [Zt _ _ e1];by_cases e2:i=p
    ·subst e2;rw [ZJ,ea];exact nl _
    ·rw [Zt _ _ e2];exact mx i hi ni
 obtain ⟨R2,b,f2,c2,ep,hb,hbp,nb,eb,mx⟩:=s1;by_cases e:R2 q=y
 ·exact ⟨R2,y,f2,by omega,ep,e⟩
 ·have hqb:q ≠ b:=fun h=>e (by rw [h];exact eb)
  obtain ⟨f3,c3⟩:=Zjn f2 hq hb hqb nq nb (lq b hb nb hbp) (by rw [eb];exact mx q hq nq);exact ⟨_,y,f3,by omega,by rw [Zt _ _ (fun e=>hbp e.symm),Zt _ _ hne];exact ep,by rw [Zt _ _ hqb,ZJ];exact eb⟩
theorem Zpf {W:Nat->Int} {p q:Nat} (hne:p ≠ q):rW W p q (min p q)=W p+W q/\rW W p q (max p q)=0/\∀ i,i ≠ p->i ≠ q->rW W p q i=W i:=by
 refine ⟨ZC _ _ _,?_,fun i h1 h2=>?_⟩
 ·unfold rW;rw [Zg _ _ (by omega)];by_cases h:p<=q
  ·rw [show max p q=q by omega,ZC]
  ·rw [show max p q=p by omega,Zg _ _ (by omega),ZC]
 ·unfold rW;rw [Zg _ _ (by omega),Zg _ _ h2,Zg _ _ h1]
theorem ZiN {g h:Nat->Int} {p q:Nat} (hp:p<16) (hq:q<16) (hne:p ≠ q) (e:∀ i,i<16->i ≠ p->i ≠ q->g i=h i):tot g 16+h (min p q)+h (max p q)=tot h 16+g p+g q:=by
 have c:=Zct hp hq hne e;by_cases h9:p<=q
 ·rw [show min p q=p by omega,show max p q=q by omega];omega
 ·rw [show min p q=q by omega,show max p q=p by omega];omega
theorem Zmi {W:Nat->Int} {M:Nat} {R:Nat->Nat} (hW:∀ i,i<16->0<=W i) (h:Fit W M R) {p q y:Nat} (hp:p<16) (hq:q<16) (hne:p ≠ q) (np:W p ≠ 0) (nq:W q ≠ 0) (ep:R p=y) (eq:R q=y) :
 Fit (rW W p q) M (updN R (min p q) (y - 1))/\tot (cs (rW W p q) (updN R (min p q) (y - 1))) 16+W p+W q=tot (cs W R) 16:=by
 obtain ⟨w1,w2,w3⟩:=Zpf (W:=W) hne;have hyM:=h.le p hp np;rw [ep] at hyM;have hWp:=hW p hp;have hWq:=hW q hq;have nn:¬ rW W p q (min p q)=0:=by rw [w1];omega
 have hmm:max p q ≠ min p q:=by omega
 have hy:1<=y:=by
  rcases Nat.eq_zero_or_pos y with h0 | h0
  ·exfalso
   have c:=Zct (g:=upd (upd (kr W R M) p 0) q 0) (h:=kr W R M) hp hq hne (fun i _ h1 h2=>by rw [Zg _ _ h2,Zg _ _ h1])
   have g0:=Zgl (W:=upd (upd (kr W R M) p 0) q 0) 16 (fun i _=>by
    unfold upd;split
    ·exact Int.le_refl _
    ·split
     ·exact Int.le_refl _
     ·exact ZtK _ _ _ _)
   rw [ZC,Zg _ _ hne,ZC,ZaB np,ZaB nq,ep,eq,h0] at c;have h1:=pow_pos M;have hs:=h.sum;rw [show M - 0=M from rfl] at c;omega
  ·exact h0
 refine ⟨⟨fun i hi ni=>?_,?_⟩,?_⟩
 ·by_cases e1:i=min p q
  ·rw [e1,ZJ];omega
  ·rw [Zt _ _ e1];by_cases e2:i=max p q
   ·exact absurd (by rw [e2];exact w2) ni
   ·rw [w3 i (by omega) (by omega)] at ni;exact h.le i hi ni
 ·have c:=ZiN (g:=kr W R M) (h:=kr (rW W p q) (updN R (min p q) (y - 1)) M) hp hq hne (fun i _ h1 h2=>by rw [kr,kr,w3 i h1 h2,Zt _ _ (by omega)]);rw [ZaB np,ZaB nq,ep,eq,ZaB nn,ZJ] at c;have e0:kr (rW W p q) (updN R (min p q) (y - 1)) M (max p q)=0:=by rw [kr,if_pos w2]
  have e1:(2:Int) ^ (M - (y - 1))=2 ^ (M - y)+2 ^ (M - y):=by
   rw [show M - (y - 1)=(M - y)+1 by omega,Int.pow_succ];omega
  have:=h.sum;omega
 ·have c:=ZiN (g:=cs W R) (h:=cs (rW W p q) (updN R (min p q) (y - 1))) hp hq hne (fun i _ h1 h2=>by rw [cs,cs,w3 i h1 h2,Zt _ _ (by omega)]);have e0:cs (rW W p q) (updN R (min p q) (y - 1)) (max p q)=0:=by rw [cs,w2,Int.zero_mul]
  have e1:cs (rW W p q) (updN R (min p q) (y - 1)) (min p q)+W p+W q=cs W R p+cs W R q:=by
   unfold cs;rw [w1,ZJ,ep,eq,show ((y - 1:Nat):Int)=(y:Int) - 1 by omega,<-Int.add_mul,Int.mul_sub];omega
  omega
def hd:Nat->(Nat->Int)->Nat->Nat
 | 0,_=>fun _=>0
 | n+1,W=>if (lt2 W 16).2=-1 then fun _=>0 else fun i=>if i=(lt2 W 16).1.toNat\/i=(lt2 W 16).2.toNat then hd n (rW W (lt2 W 16).1.toNat (lt2 W 16).2.toNat) (min (lt2 W 16).1.toNat (lt2 W 16).2.toNat)+1 else hd n (rW W (lt2 W 16).1.toNat (lt2 W 16).2.toNat) i
theorem ZnN {n:Nat} {W:Nat->Int} (h:(lt2 W 16).2=-1):hd n W=fun _=>0:=by
 cases n with
 | zero=>rfl
 | succ n=>rw [hd,if_pos h]
theorem ZhZ {n:Nat} {W:Nat->Int} {p q:Nat} (h:lt2 W 16=((p:Int),(q:Int))):hd (n+1) W=fun i=>if i=p\/i=q then hd n (rW W p q) (min p q)+1 else hd n (rW W p q) i:=by
 rw [hd,h,if_neg (by simp only;omega)];rfl
theorem Zrh:∀ n (W T L:Nat->Int),(∀ i,0<=T i)->∀ i,bldR n W T L i=L i+(hd n W (T i).toNat:Int):=by
 intro n
 induction n with
 | zero=>intro W T L _ i;rw [bldR,hd];simp
 | succ n ih =>
  intro W T L hT i;by_cases h:(lt2 W 16).2=-1
  ·rw [ZfU h,ZnN h];simp
  ·obtain ⟨p,q,hpq,hp,hq,hne,np,nq⟩:=Zcc h;rw [Zeq hpq,ZhZ hpq,ih _ _ _ (fun j=>by unfold rT;split;omega;exact hT j)];have:=hT i;unfold rT rL;by_cases e:T i=p\/T i=q
   ·rw [if_pos e,if_pos e];simp only [Int.toNat_natCast];rw [if_pos (by omega)]
    push_cast
    omega
   ·rw [if_neg e,if_neg e];simp only;rw [if_neg (by omega)]
theorem ZfS (W:Nat->Int):∀ k,(∀ i,i<k->W i ≠ 0->(lt2 W k).1 ≠ -1/\W (lt2 W k).1.toNat<=W i)/\(∀ i,i<k->W i ≠ 0->(i:Int) ≠ (lt2 W k).1->(lt2 W k).2 ≠ -1/\W (lt2 W k).2.toNat<=W i):=by
 intro k
 induction k with
 | zero=>exact ⟨fun i h=>by omega,fun i h=>by omega⟩
 | succ k ih =>
  obtain ⟨i1,i2⟩:=ih;have hs:=Zdh W k;rw [lt2,ltS];generalize lt2 W k=P at *;obtain ⟨A,B⟩:=P;simp only at *;by_cases h0:W k=0
  ·rw [if_pos h0];refine ⟨fun i hi ni=>i1 i ?_ ni,fun i hi ni=>i2 i ?_ ni⟩ <;> (by_cases e:i=k;(subst e;exact absurd h0 ni);omega)
  ·rw [if_neg h0];by_cases h1:A=-1\/W k<W A.toNat
   ·rw [if_pos h1];simp only [Int.toNat_natCast];refine ⟨fun i hi ni=>⟨by omega,?_⟩,fun i hi ni ne=>?_⟩
    ·by_cases e:i=k
     ·subst e;exact Int.le_refl _
     ·have:=i1 i (by omega) ni;omega
    ·exact i1 i (by omega) ni
   ·rw [if_neg h1];by_cases h2:B=-1\/W k<W B.toNat
    ·rw [if_pos h2];simp only [Int.toNat_natCast];refine ⟨fun i hi ni=>?_,fun i hi ni ne=>⟨by omega,?_⟩⟩
     ·by_cases e:i=k
      ·subst e;omega
      ·exact i1 i (by omega) ni
     ·by_cases e:i=k
      ·subst e;exact Int.le_refl _
      ·have:=i2 i (by omega) ni ne;omega
    ·rw [if_neg h2];simp only;refine ⟨fun i hi ni=>?_,fun i hi ni ne=>?_⟩
     ·by_cases e:i=k
      ·subst e;omega
      ·exact i1 i (by omega) ni
     ·by_cases e:i=k
      ·subst e;omega
      ·exact i2 i (by omega) ni ne
theorem ZsT:∀ n (W:Nat->Int),(∀ i,i<16->0<=W i)->cnt W 16<=n->∀ M R,Fit W M R->tot (cs W (hd n W)) 16<=tot (cs W R) 16:=by
 intro n
 induction n with
 | zero =>
  intro W hW hc M R _;rw [hd,Zbc (h:=fun _=>0) 16 (fun i _=>by simp [cs])];have h1:tot (fun _=>(0:Int)) 16=0:=by simp [tot]
  rw [h1];exact Zgl 16 (fun i hi=>Int.mul_nonneg (hW i hi) (by omega))
 | succ n ih =>
  intro W hW hc M R hF;by_cases h:(lt2 W 16).2=-1
  ·rw [ZnN h,Zbc (h:=fun _=>0) 16 (fun i _=>by simp [cs])];have h1:tot (fun _=>(0:Int)) 16=0:=by simp [tot]
   rw [h1];exact Zgl 16 (fun i hi=>Int.mul_nonneg (hW i hi) (by omega))
  ·obtain ⟨p,q,hpq,hp,hq,hne,np,nq⟩:=Zcc h;obtain ⟨m1,m2⟩:=ZfS W 16;rw [hpq] at m1 m2;simp only [Int.toNat_natCast] at m1 m2;obtain ⟨R1,y,f1,c1,ep,eq⟩:=Zpo hW hF hp hq hne np nq (fun i hi ni=>(m1 i hi ni).2) (fun i hi ni e=>(m2 i hi ni (by omega)).2);obtain ⟨f2,c2⟩:=Zmi hW f1 hp hq hne np nq ep eq;have c3:=(ZjJ hW hp hq hne np nq).1;have c4:=ih (rW W p q) (ZjL hW hp hq) (by omega) M _ f2;obtain ⟨w1,w2,w3⟩:=Zpf (W:=W) hne;rw [ZhZ hpq]
   have c5:=ZiN (g:=cs W (fun i=>if i=p\/i=q then hd n (rW W p q) (min p q)+1 else hd n (rW W p q) i)) (h:=cs (rW W p q) (hd n (rW W p q))) hp hq hne (fun i _ h1 h2=>by
    rw [cs,cs,w3 i h1 h2,if_neg (by omega)])
   have e0:cs (rW W p q) (hd n (rW W p q)) (max p q)=0:=by rw [cs,w2,Int.zero_mul]
   have e1:cs (rW W p q) (hd n (rW W p q)) (min p q)+W p+W q=cs W (fun i=>if i=p\/i=q then hd n (rW W p q) (min p q)+1 else hd n (rW W p q) i) p+cs W (fun i=>if i=p\/i=q then hd n (rW W p q) (min p q)+1 else hd n (rW W p q) i) q:=by
    simp only [cs,true_or,or_true,if_true];rw [w1]
    push_cast
    rw [Int.add_mul,Int.mul_add,Int.mul_add];omega
   omega
theorem ZtO:∀ n (W:Nat->Int),(∀ i,i<16->0<=W i)->cnt W 16<=n->(∀ i,hd n W i+1<=cnt W 16\/hd n W i=0)/\(∀ i,i<16->W i=0->hd n W i=0)/\(∀ M,15<=M->1<=cnt W 16->tot (kr W (hd n W) M) 16=2 ^ M):=by
 intro n
 induction n with
 | zero =>
  intro W hW hc;rw [hd];exact ⟨fun i=>.inr rfl,fun i _ _=>rfl,fun M _ h=>by omega⟩
 | succ n ih =>
  intro W hW hc;by_cases h:(lt2 W 16).2=-1
  ·rw [ZnN h];refine ⟨fun i=>.inr rfl,fun i _ _=>rfl,fun M _ h1=>?_⟩
   -- one alone
   obtain ⟨m1,m2⟩:=ZfS W 16
   have alone:∀ i,i<16->W i ≠ 0->(i:Int)=(lt2 W 16).1:=fun i hi ni=>by
    by_cases e:(i:Int)=(lt2 W 16).1
    ·exact e
    ·exact absurd h (m2 i hi ni e).1
   obtain ⟨i,hi,ni⟩:∃ i,i<16/\W i ≠ 0:=by
    have:∀ k,1<=cnt W k->∃ i,i<k/\W i ≠ 0:=by
     intro k
     induction k with
     | zero=>intro h;simp [cnt] at h
     | succ k ih =>
      intro h;rw [cnt] at h;by_cases e:W k=0
      ·rw [if_pos e] at h;obtain ⟨i,hi,ni⟩:=ih (by omega);exact ⟨i,by omega,ni⟩
      ·exact ⟨k,by omega,e⟩
    exact this 16 h1
   have c:=Zcg (g:=kr W (fun _=>0) M) (h:=fun _=>0) (p:=i) 16 hi (fun j hj ne=>by
    rw [kr];by_cases e:W j=0
    ·rw [if_pos e]
    ·exfalso
     have a1:=alone j hj e;have a2:=alone i hi ni
     omega)
   rw [ZaB ni] at c;have z:tot (fun _=>(0:Int)) 16=0:=by simp [tot]
   simp only [Nat.sub_zero] at c;omega
  ·obtain ⟨p,q,hpq,hp,hq,hne,np,nq⟩:=Zcc h;obtain ⟨c3,_,c2⟩:=ZjJ hW hp hq hne np nq;obtain ⟨i1,i2,i3⟩:=ih (rW W p q) (ZjL hW hp hq) (by omega);obtain ⟨w1,w2,w3⟩:=Zpf (W:=W) hne;rw [ZhZ hpq];refine ⟨fun i=>?_,fun i hi h0=>?_,fun M hM _=>?_⟩
   ·simp only;by_cases e:i=p\/i=q
    ·rw [if_pos e];have:=i1 (min p q);omega
    ·rw [if_neg e];have:=i1 i;omega
   ·simp only;have e1:i ≠ p:=fun e=>np (by rw [<-e];exact h0)
    have e2:i ≠ q:=fun e=>nq (by rw [<-e];exact h0)
    rw [if_neg (by omega)];exact i2 i hi (by rw [w3 i e1 e2];exact h0)
   ·have c:=ZiN (g:=kr W (fun i=>if i=p\/i=q then hd n (rW W p q) (min p q)+1 else hd n (rW W p q) i) M) (h:=kr (rW W p q) (hd n (rW W p q)) M) hp hq hne (fun i _ h1 h2=>by
     simp only [kr]
     rw [w3 i h1 h2,if_neg (show ¬ (i=p\/i=q) by omega)])
    have hWp:=hW p hp;have hWq:=hW q hq;have nn:¬ rW W p q (min p q)=0:=by rw [w1];omega
    rw [ZaB np,ZaB nq,ZaB nn] at c;have e0:kr (rW W p q) (hd n (rW W p q)) M (max p q)=0:=by rw [kr,if_pos w2]
    simp only [true_or,or_true,if_true] at c;have hb:=i1 (min p q);have hc16:=Zhw W 16
    have e1:(2:Int) ^ (M - hd n (rW W p q) (min p q))=2 ^ (M - (hd n (rW W p q) (min p q)+1))+2 ^ (M - (hd n (rW W p q) (min p q)+1)):=by
     rw [show M - hd n (rW W p q) (min p q)=(M - (hd n (rW W p q) (min p q)+1))+1 by omega,Int.pow_succ];omega
    have:=i3 M hM (by omega);omega
theorem ZsR {f c:Nat->Int}:∀ k,(∀ i,i<k->¬ (0<c i/\f i=0))->cst f c k=some (tot (fun i=>c i*f i) k):=by
 intro k
 induction k with
 | zero=>intro _;rfl
 | succ k ih =>
  intro h;rw [cst,ih (fun i hi=>h i (by omega))];simp only;rw [if_neg (h k (by omega)),tot]
theorem Zoe {f c:Nat->Int}:∀ k n,cst f c k=some n->(∀ i,i<k->¬ (0<c i/\f i=0))/\n=tot (fun i=>c i*f i) k:=by
 intro k
 induction k with
 | zero=>intro n h;simp [cst] at h;exact ⟨fun i h=>by omega,by rw [<-h];rfl⟩
 | succ k ih =>
  intro n h;rw [cst] at h
  cases hq:cst f c k with
  | none=>rw [hq] at h;simp at h
  | some m =>
   rw [hq] at h;simp only at h;split at h
   ·simp at h
   ·rename_i h9
    simp only [Option.some.injEq] at h;obtain ⟨h1,h2⟩:=ih m hq;refine ⟨fun i hi=>?_,by rw [tot,<-h2,<-h]⟩;by_cases e:i=k
    ·subst e;exact h9
    ·exact h1 i (by omega)
theorem ZnX (f:Nat->Int):∀ k,sm f k=tot (fun i=>wt (f i)) k:=by
 intro k
 induction k with
 | zero=>rfl
 | succ k ih=>rw [sm,tot,ih]
theorem ZeV {g h:Nat->Int}:∀ k,(∀ i,i<k->g i<=h i)->tot g k<=tot h k:=by
 intro k
 induction k with
 | zero=>intro _;exact Int.le_refl _
 | succ k ih=>intro e;rw [tot,tot];have:=e k (by omega);have:=ih (fun i hi=>e i (by omega));omega
theorem Zma {r c:Nat->Int} (hr:chk r=0) (hn:∀ i,i<16->¬ (0<c i/\r i=0)) (hc:∀ i,i<16->0<=c i):Fit c 15 (fun i=>(r i).toNat):=by
 obtain ⟨h1,_,h3⟩:=Ze hr;refine ⟨fun i hi _=>by have:=h1 i hi;omega,?_⟩;rw [ZnX] at h3;refine Int.le_trans (ZeV 16 (fun i hi=>?_)) (show tot (fun i=>wt (r i)) 16<=2 ^ 15 from h3);have h4:=h1 i hi;have h5:=hc i hi;have h6:=hn i hi;rw [kr];split
 ·exact (wt_b h4.1 h4.2).1
 ·rw [ZeR (by omega)];refine ZbL ?_;omega
theorem ZjM (c:Nat->Int) (h:(bld c).2=0):chk (bld c).1=0/\(cost (bld c).1 c).2=0/\∀ r,(cost r c).2=0->(cost (bld c).1 c).1<=(cost r c).1:=by
 have hin:InR c 2048 16:=by
  by_cases h1:InR c 2048 16
  ·exact h1
  ·rw [bld,if_pos h1] at h;simp at h
 have hfst:(lt2 c 16).1 ≠ -1:=by
  intro h1;rw [bld,if_neg (fun h=>h hin),if_pos h1] at h;simp at h
 have hc:∀ i,i<16->0<=c i:=fun i hi=>(hin i hi).1
 have rest:∀ (L:Nat->Int),chk L=0->(∀ i,i<16->¬ (0<c i/\L i=0))->(∀ r,chk r=0->(∀ i,i<16->¬ (0<c i/\r i=0))->tot (fun i=>c i*L i) 16<=tot (fun i=>c i*r i) 16) →
  chk L=0/\(cost L c).2=0/\∀ r,(cost r c).2=0->(cost L c).1<=(cost r c).1:=by
  intro L h1 h2 h3
  have e1:cost L c=(tot (fun i=>c i*L i) 16,0):=by
   rw [cost,if_neg (fun h=>h h1),if_neg (fun h=>h hin),ZsR 16 h2]
  refine ⟨h1,by rw [e1],fun r hr=>?_⟩;rw [e1];unfold cost at hr |-
  by_cases r1:chk r=0
  ·rw [if_neg (fun h=>h r1),if_neg (fun h=>h hin)] at hr |-
   cases hq:cst r c 16 with
   | none=>rw [hq] at hr;simp at hr
   | some m =>
    obtain ⟨a1,a2⟩:=Zoe 16 m hq;simp only;rw [a2];exact h3 r r1 a1
  ·rw [if_pos r1] at hr;simp only at hr;exact absurd hr r1
 have hmn:=ZfS c 16;by_cases hsec:(lt2 c 16).2=-1
 ·
  have e:(bld c).1=upd (fun _=>0) (lt2 c 16).1.toNat 1:=by rw [bld,if_neg (fun h=>h hin),if_neg hfst,if_pos hsec]
  rw [e];obtain ⟨s1,_⟩:=Zdh c 16;rcases s1 with s1 | ⟨p,e1,hp,np⟩
  ·exact absurd s1 hfst
  rw [e1,Int.toNat_natCast]
  have alone:∀ i,i<16->c i ≠ 0->i=p:=fun i hi ni=>by
   by_cases e:(i:Int)=(lt2 c 16).1
   ·omega
   ·exact absurd hsec (hmn.2 i hi ni e).1
  have hsm:sm (upd (fun _=>0) p 1) 16=16384:=by
   rw [ZnX];have cc:=Zcg (g:=fun i=>wt (upd (fun _=>0) p 1 i)) (h:=fun _=>0) (p:=p) 16 hp (fun j hj ne=>by rw [Zg _ _ ne];exact Zdg (by omega));simp only at cc;rw [ZC,ZeR (by omega)] at cc;have z:tot (fun _=>(0:Int)) 16=0:=by simp [tot]
   have z2:(2:Int) ^ (15 - (1:Int)).toNat=16384:=by decide
   omega
  refine rest _ (ZjQ (fun i hi=>?_) (by omega)) (fun i hi h9=>?_) (fun r r1 r2=>?_)
  ·by_cases e9:i=p
   ·rw [e9,ZC];omega
   ·rw [Zg _ _ e9];omega
  ·have:=alone i hi (by omega);subst this;rw [ZC] at h9;omega
  ·refine ZeV 16 (fun i hi=>?_);have h5:=hc i hi;have h4:=(Ze r1).1 i hi;by_cases e:c i=0
   ·rw [e];omega
   ·have e2:=alone i hi e;subst e2;rw [ZC];have:=r2 i hi;exact Int.mul_le_mul_of_nonneg_left (by omega) h5
 ·have e:(bld c).1=bldR 16 c (fun i=>i) (fun _=>0):=by rw [bld,if_neg (fun h=>h hin),if_neg hfst,if_neg hsec]
  have e2:∀ i,(bld c).1 i=(hd 16 c i:Int):=fun i=>by rw [e,Zrh 16 c _ _ (fun i=>by omega)];simp
  obtain ⟨p,q,hpq,hp,hq,hne,np,nq⟩:=Zcc hsec;obtain ⟨c3,_,c2⟩:=ZjJ hc hp hq hne np nq;obtain ⟨f1,f2,f3⟩:=ZtO 16 c hc (Zhw c 16);have f4:=f3 15 (nl _) (by omega);have c16:=Zhw c 16;have hb:∀ i,hd 16 c i<=15:=fun i=>by have:=f1 i;omega
  -- what weighs has a word
  have hw:∀ i,i<16->c i ≠ 0->1<=hd 16 c i:=fun i hi ni=>by
   rcases Nat.eq_zero_or_pos (hd 16 c i) with h0 | h0
   ·exfalso
    obtain ⟨j,hj,nj,hij⟩:∃ j,j<16/\c j ≠ 0/\i ≠ j:=by
     by_cases e:i=p
     ·exact ⟨q,hq,nq,by omega⟩
     ·exact ⟨p,hp,np,e⟩
    have cc:=Zct (g:=upd (upd (kr c (hd 16 c) 15) i 0) j 0) (h:=kr c (hd 16 c) 15) hi hj hij (fun k _ h1 h2=>by rw [Zg _ _ h2,Zg _ _ h1])
    have g0:=Zgl (W:=upd (upd (kr c (hd 16 c) 15) i 0) j 0) 16 (fun k _=>by
     unfold upd;split
     ·exact Int.le_refl _
     ·split
      ·exact Int.le_refl _
      ·exact ZtK _ _ _ _)
    rw [ZC,Zg _ _ hij,ZC,ZaB ni,ZaB nj,h0] at cc;have:=pow_pos (15 - hd 16 c j);rw [show 15 - 0=15 from rfl] at cc;omega
   ·exact h0
  have hsm:sm (bld c).1 16=32768:=by
   rw [ZnX,Zbc (h:=kr c (hd 16 c) 15) 16 (fun i hi=>?_),f4]
   ·rfl
   ·rw [e2 i,kr];by_cases ni:c i=0
    ·rw [if_pos ni,f2 i hi ni];exact Zdg (by omega)
    ·have:=hw i hi ni;have h15:=hb i;rw [if_neg ni,ZeR (by omega)]
     congr 1
     omega
  refine rest _ (ZjQ (fun i hi=>?_) (by omega)) (fun i hi h9=>?_) (fun r r1 r2=>?_)
  ·rw [e2 i];have:=hb i;omega
  ·rw [e2 i] at h9;have:=hw i hi (by omega);omega
  ·have b:=ZsT 16 c hc (Zhw c 16) 15 _ (Zma r1 r2 hc);rw [Zbc (h:=cs c (hd 16 c)) 16 (fun i hi=>by rw [cs,e2 i])];refine Int.le_trans b (Int.le_of_eq (Zbc 16 (fun i hi=>?_)));have h4:=(Ze r1).1 i hi;rw [cs,Int.toNat_of_nonneg h4.1]
end Go.Proofs.YtbjbjbpgmojcbacGreat.Cd
namespace Go.Proofs.YtbjbjbpgmojcbacGreat
open Go.RowKit
def Zbu (dict s:ByteArray):Option (List Tk.T) :=
 match Tk.D s with
 | none=>none
 | some l=>if l.length<=512/\Zl dict l=0 then some l else none
theorem Zcm {dict s S:ByteArray} {l:List Tk.T} (h1:Tk.D s=(Tk.D S).map (l++·)) (h2:Tk.D S=none):Zbu dict s=none:=by
 unfold Zbu;rw [h1,h2];rfl
theorem Zeb {dict s S:ByteArray} {l:List Tk.T} (h1:Tk.D s=(Tk.D S).map (l++·)) (h2:512<l.length):Zbu dict s=none:=by
 unfold Zbu;rw [h1]
 cases Tk.D S with
 | none=>rfl
 | some m =>
  simp only [Option.map_some];rw [if_neg];simp;omega
theorem ZeZ {dict s S:ByteArray} {l:List Tk.T} (h1:Tk.D s=(Tk.D S).map (l++·)) (h2:S.size=0) (h3:l.length<=512):Zbu dict s=if Zl dict l=0 then some l else none:=by
 unfold Zbu;rw [h1,Tk.Zpw h2];simp [h3]
theorem ZqJ {s S S2:ByteArray} {l:List Tk.T} {t:Tk.T} {k:Nat} (h1:Tk.D s=(Tk.D S).map (l++·)) (h2:Tk.one S=some (t,k)) (h3:S.extract k S.size=S2):Tk.D s=(Tk.D S2).map ((l++[t])++·):=by
 rw [h1,Tk.Zhv h2,h3]
 cases Tk.D S2 <;> simp
theorem ZrJ {w:World} {B n size q o:Nat} {e:TypeId} {v:Value} {xs:List Value} (h:w.ownsRow B e size v n xs) (hne:v.ownBlock ≠ some q) (x:Value):(w.setCell ⟨q,o,none⟩ x).ownsRow B e size v n xs :=
 h.kept (row:=some q) ⟨rfl,rfl,rfl,by simp [World.setCell],fun k _ hk=>zhS _ _ _ _ (fun e=>hk (by rw [e]))⟩ (.inr hne)
theorem Zjm (w:World) (g:Nat) (hg:g=w.heap.size) (x y z:Value) (T:TypeId):∀ j u,[x,y,z][j]?=some u->(w.alloc (.cells #[x,y,z] T)).cell? ((⟨g,0,none⟩:Addr).add j)=some u:=by
 subst hg;exact Zhr w x y z T
theorem ZjE (w:World) (a:Addr) (x:Value):(w.setCell a x).heap.size=w.heap.size:=by simp [World.setCell]
def Lits (l:List Tk.T) (n:Nat):Prop:=∀ t ∈ l,t.lit.size<=n
set_option maxRecDepth 4000 in
set_option maxHeartbeats 4000000 in
theorem Zdv (dict s:ByteArray) (w:World) (hs:s.size<=140737488355328) :
 Calls Tryz.prog 104 #[.string dict,.string s] w fun e w'=>Below w.heap.size w w' ∧
  ((Zbu dict s=none/\e=.returned (.tuple #[.slice none 0 0,.bool false]))\/∃ l ad cap,Zbu dict s=some l/\e=.returned (.tuple #[.slice ad l.length cap,.bool true])/\SlAt w' ad l):=by
 obtain ⟨i0,hi,hz0,hz1,hz2⟩:=info_parts ZcK;generalize hRO:Zbu dict s=RO at *;have HRO:Hid (Zbu dict s=RO):=hRO;clear hRO;go_enter Tryz.func104,Tryz.ntmps104
 go_wp2_with fail
 go_loopw [1,6] (fun x v wr=>∃ (S:ByteArray) (l:List Tk.T),x=.string S/\wr.ownsRow w.heap.size 145 3 v l.length (tcs l)/\Hid (Tk.D s=(Tk.D S).map (l++·)) ∧
  l.length<=512/\S.size<=140737488355328/\Hid (Lits l 140737488355328)/\Below w.heap.size w wr)
  (fun x _ _=>Ztd x)
 case atStart =>
  refine ⟨s,[],rfl,World.ownsRow_nil _ _ _ _,?_,by simp,hs,fun t ht=>by simp at ht,bR _ _⟩;show _=_
  cases Tk.D s <;> rfl
 case round =>
  obtain ⟨S,l,rfl,hown,hD,hl,hS,hlits,G⟩:=hrel;have hgs:=G.size;by_cases h0:S.size=0
  ·have hE0:=Zao h0;obtain ⟨ad,cap,rfl,hsl⟩:=ZbJ hown
   have hsane:Sane l:=⟨by omega,hlits.out⟩
   have hc:=fun w hsl=>ZmZ dict ad cap l w hsl hsane
   generalize hP:Zas dict l=PO at *;clear hP;by_cases hck:Zl dict l=0
   ·have HX:Hid (RO=some l):=by
     show _=_;rw [<-HRO.out,ZeZ hD.out h0 hl,if_pos hck]
    rw [hck] at hc;clear hown hD hck;go_wp2_with fail
    refine (hc _ hsl).mono ?_;rintro e w1 ⟨rfl,hb1⟩;clear hc;go_wp2_with fail
    go_ret2
    exact ⟨bch G hb1 (nl _),.inr ⟨l,ad,cap,HX.out,rfl,hsl.below hb1⟩⟩
   ·have HX:Hid (RO=none):=by
     show _=_;rw [<-HRO.out,ZeZ hD.out h0 hl,if_neg hck]
    have hne:(Zl dict l != 0)=true:=by simpa using hck
    generalize Zl dict l=E at *;clear hown hD hck;go_wp2_with fail
    refine (hc _ hsl).mono ?_;rintro e w1 ⟨rfl,hb1⟩;clear hc;go_wp2_with fail
    go_ret2
    exact ⟨bch G hb1 (nl _),.inl ⟨HX.out,rfl⟩⟩
  ·have hE0:=ZW h0
   cases hf:Nm.Zm S.data.toList with
   | none =>
    have HX:Hid (RO=none):=by
     show _=_;rw [<-HRO.out];exact Zcm hD.out (Tk.Zhp h0 (by simp [Tk.one,hf]))
    have hc:=fun w=>ZcV S w (by omega) hf
    clear hf hD;go_wp2_with fail
    refine (hc _).mono ?_;rintro e w1 ⟨rfl,hb1⟩;clear hc;go_wp2_with fail
    go_ret2
    exact ⟨bch G hb1 (nl _),.inl ⟨HX.out,rfl⟩⟩
   | some x =>
    obtain ⟨n,k⟩:=x;have hc:=fun w=>ZaT S w n k (by omega) hf
    have hnb:=Nm.Zaj hf;have hn:(n:Int)<=2147483647:=by omega
    have hkS:k<=S.size:=by simpa using hnb.2.2.1
    obtain ⟨r,hr⟩:∃ r,S.extract k S.size=r:=⟨_,rfl⟩
    have hrs:r.size=S.size - k:=by rw [<-hr,Tk.Zp]
    have HRS:Hid (r.size=S.size - k):=hrs;have hrb:r.size<=140737488355328:=by omega
    rw [hr] at hc;by_cases ho:n % 2=1
    ·have ho1:((n:Int) % 2 == 0)=false:=by simp;omega
     have hq2:(n:Int) / 2<=2147483647:=by omega
     cases hg:Nm.Zm r.data.toList with
     | none =>
      have HX:Hid (RO=none):=by
       show _=_;rw [<-HRO.out];refine Zcm hD.out (Tk.Zhp h0 ?_);unfold Tk.one;rw [hf];simp only;rw [if_pos ho,hr,hg]
      have hc2:=fun w=>ZcV r w (by omega) hg
      clear hf hD hg hr hrs hnb ho;go_wp2_with fail
      refine (hc _).mono ?_;rintro e w1 ⟨rfl,hb1⟩;clear hc;have G1:=bch G hb1 (nl _);have hgs1:=G1.size;go_wp2_with fail
      refine (hc2 _).mono ?_;rintro e w2 ⟨rfl,hb2⟩;clear hc2;obtain ⟨q0,q1,q2,q3,q4,q5⟩:=box6 hb2;go_wp2_with fail
      go_ret2
      exact ⟨((bch (G1.alloc hgs1 _) hb2 (nl _)).setCell (p:=⟨w1.heap.size,1,none⟩) hgs1 _),.inl ⟨HX.out,rfl⟩⟩
     | some y =>
      obtain ⟨f,j⟩:=y
      have hone:Tk.one S=some (⟨⟨#[]⟩,f,(n / 2:Nat)⟩,k+j):=by
       unfold Tk.one;rw [hf];simp only;rw [if_pos ho,hr,hg]
      obtain ⟨S2,hS2⟩:∃ S2,r.extract j r.size=S2:=⟨_,rfl⟩
      have hSS:S.extract (k+j) S.size=S2:=by
       rw [<-hS2,<-hr];apply Nm.ZF;rw [Tk.ZQ,Tk.ZQ,Tk.ZQ,List.drop_drop]
      have HD2:Hid (Tk.D s=(Tk.D S2).map ((l++[⟨⟨#[]⟩,f,(n / 2:Nat)⟩])++·)):=ZqJ hD.out hone hSS;have hnn:((n / 2:Nat):Int)=(n:Int) / 2:=by omega
      rw [hnn] at HD2;have hc2:=fun w=>ZaT r w f j (by omega) hg
      rw [hS2] at hc2
      have HS:Hid (S2.size<S.size):=by
       show _<_;have:=Tk.Zda hone;rw [<-hSS,Tk.Zp];omega
      have hS2b:S2.size<=140737488355328:=by have:=HS.out;omega
      have HO:Hid (wr.ownsRow w.heap.size 145 3 u6 l.length (tcs l)):=hown;clear hf hD hg hr hrs hnb ho hone hS2 hSS hnn hown;go_wp2_with fail
      refine (hc _).mono ?_;rintro e w1 ⟨rfl,hb1⟩;clear hc;have G1:=bch G hb1 (nl _);have hgs1:=G1.size;have HO1:=Zj HO.out hb1;go_wp2_with fail
      refine (hc2 _).mono ?_;rintro e w2 ⟨rfl,hb2⟩;clear hc2;obtain ⟨q0,q1,q2,q3,q4,q5⟩:=box6 hb2;have hneq:u6.ownBlock ≠ some w1.heap.size:=fun e=>by have:=(HO1.lt _ e).2;omega
      have HO2:=ZrJ (o:=1) (Zj (HO1.alloc _) hb2) hneq (.int .i64 f);have G2:=(bch (G1.alloc hgs1 _) hb2 (nl _)).setCell (p:=⟨w1.heap.size,1,none⟩) hgs1 (.int .i64 f);have hgs2:=G2.size;rw [ZjE] at hgs2;have hsz2:=ZjE w2 ⟨w1.heap.size,1,none⟩ (.int .i64 f);have Hsz2:Hid ((w2.setCell ⟨w1.heap.size,1,none⟩ (.int .i64 f)).heap.size=w2.heap.size):=hsz2;clear hsz2;by_cases h512:512<l.length+1
      ·have HX:Hid (RO=none):=by
        show _=_;rw [<-HRO.out];exact Zeb HD2.out (by simp;omega)
       have hd1:decide ((512:Int)<(l.length:Int)+1)=true:=by simp;omega
       go_wp2_with (at_builtin;go_must (refine zwL _ rfl _ _ 118 rfl w.heap.size 145 i0 (.agg #[.string ⟨#[]⟩,.int .i64 0,.int .i64 0]) 3 32 U118 hi hz0 hz1 hz2 rfl (by decide) _ l.length (tcs l) rfl (HO2.alloc _) ⟨w2.heap.size,0,none⟩ 1 1 [.string ⟨#[]⟩,.int .i64 f,.int .i64 ((n:Int) / 2)] rfl rfl (Zjm _ _ Hsz2.out.symm _ _ _ _) (one3 _ _ _ rfl rfl rfl) (by decide) (ZaJ (by omega)) (by omega) (ZG _ (by rw [Hsz2.out];exact hgs2)) _ rfl ?_;intro g4 cp4 w4 hown4 hgrow4 _ _))
       go_ret2
       exact ⟨(G2.alloc G2.size _).grown hgrow4 (ZG _ G2.size) (fun k hk=>(HO2.lt k hk).1),.inl ⟨HX.out,rfl⟩⟩
      ·have hd1:decide ((512:Int)<(l.length:Int)+1)=false:=by simp;omega
       go_wp2_with (at_builtin;go_must (refine zwL _ rfl _ _ 118 rfl w.heap.size 145 i0 (.agg #[.string ⟨#[]⟩,.int .i64 0,.int .i64 0]) 3 32 U118 hi hz0 hz1 hz2 rfl (by decide) _ l.length (tcs l) rfl (HO2.alloc _) ⟨w2.heap.size,0,none⟩ 1 1 [.string ⟨#[]⟩,.int .i64 f,.int .i64 ((n:Int) / 2)] rfl rfl (Zjm _ _ Hsz2.out.symm _ _ _ _) (one3 _ _ _ rfl rfl rfl) (by decide) (ZaJ (by omega)) (by omega) (ZG _ (by rw [Hsz2.out];exact hgs2)) _ rfl ?_;intro g4 cp4 w4 hown4 hgrow4 _ _))
       go_roundw
       case rel =>
        have htc:tcs (l++[⟨⟨#[]⟩,f,(n:Int) / 2⟩])=tcs l++[.string ⟨#[]⟩,.int .i64 f,.int .i64 ((n:Int) / 2)]:=Zal _ _;refine ⟨S2,l++[⟨⟨#[]⟩,f,(n:Int) / 2⟩],rfl,by rw [htc,List.length_append];exact hown4,HD2,by simp;omega,hS2b,?_,(G2.alloc G2.size _).grown hgrow4 (ZG _ G2.size) (fun k hk=>(HO2.lt k hk).1)⟩;intro t ht;rcases List.mem_append.1 ht with h | h
        ·exact hlits.out t h
        ·simp at h;subst h;exact Nat.zero_le _
       case measure=>exact HS.out
    ·have ho1:((n:Int) % 2 == 0)=true:=by simp;omega
     obtain ⟨m,hm⟩:∃ m,n / 2=m:=⟨_,rfl⟩
     have hq:(n:Int) / 2=(m:Int):=by omega
     by_cases hbig:r.size<m
     ·have HX:Hid (RO=none):=by
       show _=_;rw [<-HRO.out];refine Zcm hD.out (Tk.Zhp h0 ?_);unfold Tk.one;rw [hf];simp only;rw [if_neg ho,if_pos (by omega)]
      have hd1:decide ((r.size:Int)<(m:Int))=true:=by simp;omega
      have hd2:decide (r.size<m)=true:=by simp;omega
      clear hf hD hr hrs hnb ho hm hbig;go_wp2_with fail
      refine (hc _).mono ?_;rintro e w1 ⟨rfl,hb1⟩;clear hc;have G1:=bch G hb1 (nl _);have hgs1:=G1.size;go_wp2_with fail
      go_ret2
      exact ⟨G1.alloc hgs1 _,.inl ⟨HX.out,rfl⟩⟩
     ·have hd1:decide ((r.size:Int)<(m:Int))=false:=by simp;omega
      have hd2:decide (r.size<m)=false:=by simp;omega
      have hi1:(0:Int)<=(m:Int):=by omega
      have hi2:(m:Int)<=(r.size:Int):=by omega
      have hone:Tk.one S=some (⟨S.extract k (k+n / 2),0,0⟩,k+n / 2):=by
       unfold Tk.one;rw [hf];simp only;rw [if_neg ho,if_neg (by omega)]
      rw [hm] at hone
      obtain ⟨S2,hS2⟩:∃ S2,r.extract m r.size=S2:=⟨_,rfl⟩
      obtain ⟨lit,hlit⟩:∃ lit,r.extract 0 m=lit:=⟨_,rfl⟩
      have hSS:S.extract (k+m) S.size=S2:=by
       rw [<-hS2,<-hr];apply Nm.ZF;rw [Tk.ZQ,Tk.ZQ,Tk.ZQ,List.drop_drop]
      have hLL:S.extract k (k+m)=lit:=by
       rw [<-hlit,<-hr];apply Nm.ZF;rw [Tk.Zad,Tk.Zad,Tk.ZQ];simp
      rw [hLL] at hone;have HD2:Hid (Tk.D s=(Tk.D S2).map ((l++[⟨lit,0,0⟩])++·)):=ZqJ hD.out hone hSS
      have HS:Hid (S2.size<S.size):=by
       show _<_;have:=Tk.Zda hone;rw [<-hSS,Tk.Zp];omega
      have hS2b:S2.size<=140737488355328:=by have:=HS.out;omega
      have Hlit:Hid (lit.size<=140737488355328):=by
       have:=ZmY hone;show _<=_;exact nt this hS
      have HO:Hid (wr.ownsRow w.heap.size 145 3 u6 l.length (tcs l)):=hown;clear hf hD hr hrs hnb ho hm hone hSS hLL hbig hown;go_wp2_with fail
      refine (hc _).mono ?_;rintro e w1 ⟨rfl,hb1⟩;clear hc;have G1:=bch G hb1 (nl _);have hgs1:=G1.size;have HO1:=Zj HO.out hb1;have G2:=G1.alloc hgs1 (.cells #[.string lit,.int .i64 0,.int .i64 0] 145);have HO2:=HO1.alloc (.cells #[.string lit,.int .i64 0,.int .i64 0] 145);by_cases h512:512<l.length+1
      ·have HX:Hid (RO=none):=by
        show _=_;rw [<-HRO.out];exact Zeb HD2.out (by simp;omega)
       have hd1:decide ((512:Int)<(l.length:Int)+1)=true:=by simp;omega
       go_wp2_with (at_builtin;go_must (refine zwL _ rfl _ _ 118 rfl w.heap.size 145 i0 (.agg #[.string ⟨#[]⟩,.int .i64 0,.int .i64 0]) 3 32 U118 hi hz0 hz1 hz2 rfl (by decide) _ l.length (tcs l) rfl (HO2.alloc _) ⟨w1.heap.size+1,0,none⟩ 1 1 [.string lit,.int .i64 0,.int .i64 0] rfl rfl (Zjm _ _ (by simp) _ _ _ _) (one3 _ _ _ rfl rfl rfl) (by decide) (ZaJ (by omega)) (by omega) (ZG _ (ZG _ hgs1)) _ rfl ?_;intro g4 cp4 w4 hown4 hgrow4 _ _))
       go_ret2
       exact ⟨(G2.alloc G2.size _).grown hgrow4 (ZG _ G2.size) (fun k hk=>(HO2.lt k hk).1),.inl ⟨HX.out,rfl⟩⟩
      ·have hd1:decide ((512:Int)<(l.length:Int)+1)=false:=by simp;omega
       go_wp2_with (at_builtin;go_must (refine zwL _ rfl _ _ 118 rfl w.heap.size 145 i0 (.agg #[.string ⟨#[]⟩,.int .i64 0,.int .i64 0]) 3 32 U118 hi hz0 hz1 hz2 rfl (by decide) _ l.length (tcs l) rfl (HO2.alloc _) ⟨w1.heap.size+1,0,none⟩ 1 1 [.string lit,.int .i64 0,.int .i64 0] rfl rfl (Zjm _ _ (by simp) _ _ _ _) (one3 _ _ _ rfl rfl rfl) (by decide) (ZaJ (by omega)) (by omega) (ZG _ (ZG _ hgs1)) _ rfl ?_;intro g4 cp4 w4 hown4 hgrow4 _ _))
       go_roundw
       case rel =>
        have htc:tcs (l++[⟨lit,0,0⟩])=tcs l++[.string lit,.int .i64 0,.int .i64 0]:=Zal _ _;refine ⟨S2,l++[⟨lit,0,0⟩],rfl,by rw [htc,List.length_append];exact hown4,HD2,by simp;omega,hS2b,?_,(G2.alloc G2.size _).grown hgrow4 (ZG _ G2.size) (fun k hk=>(HO2.lt k hk).1)⟩;intro t ht;rcases List.mem_append.1 ht with h | h
        ·exact hlits.out t h
        ·simp at h;subst h;exact Hlit.out
       case measure=>exact HS.out
end Go.Proofs.YtbjbjbpgmojcbacGreat
