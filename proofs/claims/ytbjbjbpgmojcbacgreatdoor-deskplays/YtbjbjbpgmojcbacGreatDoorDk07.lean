/- A part of the proof: what it leans on. -/
import Derived.Test.YtbjbjbpgmojcbacGreatDoorDk04
set_option maxRecDepth 4000
set_option maxHeartbeats 4000000
namespace Go.Proofs.YtbjbjbpgmojcbacGreatDoor.Cd
open Ar Bk Cd Dk Im Tk Tr Vy
open Tryz
variable{M n p q:Nat}{W c f g h:Nat->Int}{R:Nat->Nat}
theorem p8 :∀k,(∀i,i<k->g i=h i)->YY g k=YY h k:=by
 intro k
 induction k with
 |zero=>intro _;rfl
 |succ k ih=>intro e;rw[YY,YY,ih (λi hi=>e i (by omega)),e k (by omega)]
theorem oK :∀k,p<k->(∀i,i<k->i≠p->g i=h i)->YY g k+h p=YY h k+g p:=by
 intro k
 induction k with
 |zero=>intro h;omega
 |succ k ih =>
  intro hp e;rw[YY,YY];by_cases hk:p=k
  ·subst hk;rw[p8 p (λi hi=>e i (by omega) (by omega))];omega
  ·have h1:=ih (by omega) (λi hi=>e i (by omega));have h2:=e k (by omega) (by omega);omega
theorem r7{k:Nat}(hp:p<k)(hq:q<k)(hne:p≠q)(e:∀i,i<k->i≠p->i≠q->g i=h i):YY g k+h p+h q=YY h k+g p+g q:=by
 have h1:YY g k+upd g p (h p) p=YY (upd g p (h p)) k+g p:=oK k hp (λi _ hi=>(Zl g _ hi).symm)
 have h2:YY (upd g p (h p)) k+h q=YY h k+upd g p (h p) q:=oK k hq (λi hi h9=>by
  by_cases h8:i=p
  ·subst h8;exact ZL _ _ _
  ·rw[Zl _ _ h8];exact e i hi h8 h9)
 rw[ZL]at h1;rw[Zl _ _ (λe=>hne e.symm)]at h2;omega
theorem Ma{d:Int} :∀k,(∀i,i<k->d ∣ g i)->d ∣ YY g k:=by
 intro k
 induction k with
 |zero=>intro _;exact⟨0,by simp[YY]⟩
 |succ k ih=>intro h;rw[YY];exact Int.dvd_add (ih (λi hi=>h i (by omega))) (h k (by omega))
theorem D7(R:Nat->Nat)(P:Nat->Prop):∀k,(∃i,i<k/\P i)->∃a,a<k/\P a/\∀i,i<k->P i->R i<=R a:=by
 intro k
 induction k with
 |zero=>rintro⟨i,h,_⟩;omega
 |succ k ih =>
  rintro⟨i,hi,hP⟩;by_cases h:∃i,i<k/\P i
  ·obtain⟨a,ha,hPa,hm⟩:=ih h;by_cases hk:P k/\R a<R k
   ·refine⟨k,by omega,hk.1,λj hj p9=>?_⟩;by_cases e:j=k
    ·subst e;exact nl _
    ·have:=hm j (by omega) p9;omega
   ·refine⟨a,by omega,hPa,λj hj p9=>?_⟩;by_cases e:j=k
    ·subst e;have h9:¬R a<R j:=λh8=>hk ⟨p9,h8⟩
     omega
    ·exact hm j (by omega) p9
  ·obtain rfl:i=k:=by
    by_cases e:i=k
    ·exact e
    ·exact absurd ⟨i,by omega,hP⟩ h
   refine⟨i,by omega,hP,λj hj p9=>?_⟩;by_cases e:j=i
   ·subst e;exact nl _
   ·exact absurd ⟨j,by omega,p9⟩ h
def kr(W:Nat->Int)(R:Nat->Nat)(M:Nat)(i:Nat):Int:=if W i=0 then 0 else 2^(M-R i)
def cs(W:Nat->Int)(R:Nat->Nat)(i:Nat):Int:=W i*(R i:Int)
def bV(f:Nat->Nat)(k v:Nat):Nat->Nat:=λi=>if i=k then v else f i
theorem ZW(f:Nat->Nat)(k v:Nat):bV f k v k=v:=by simp[bV]
theorem Zx(f:Nat->Nat){k i:Nat}(v:Nat)(h:i≠k):bV f k v i=f i:=by simp[bV,h]
theorem D8(W:Nat->Int)(R:Nat->Nat)(M i:Nat):0<=kr W R M i:=by
 unfold kr;split
 ·exact Int.le_refl _
 ·have:=pow_pos (M-R i);omega
theorem bp{i:Nat}(h:W i≠0):kr W R M i=2^(M-R i):=by rw[kr,ab h]
structure Fit(W:Nat->Int)(M:Nat)(R:Nat->Nat):Prop where
 le:∀i,i<16->W i≠0->R i<=M
 sum:YY (kr W R M) 16<=2^M
theorem Ea(a b:Nat):(2:Int)^(a+b)=2^a*2^b:=Int.pow_add ..
theorem Mb(hW:∀i,i<16->0<=W i)(h:Fit W M R){p q:Nat}(hp:p<16)(hq:q<16)(hne:p≠q)(np:W p≠0)(nq:W q≠0) :
 ∃R1 y a b,Fit W M R1/\YY (cs W R1) 16<=YY (cs W R) 16/\a<16/\b<16/\a≠b/\W a≠0/\W b≠0/\R1 a=y/\R1 b=y/\∀i,i<16->W i≠0->R1 i<=y:=by
 obtain⟨a,ha,na,ma⟩:=D7 R (λi=>W i≠0) 16 ⟨p,hp,np⟩
 obtain⟨b,hb,nb,mb⟩:=D7 R (λi=>W i≠0/\i≠a) 16 (by
  by_cases e:p=a
  ·exact⟨q,hq,nq,by omega⟩
  ·exact⟨p,hp,np,e⟩)
 have yz:=h.le b hb nb.1;have UU:=h.le a ha na;refine⟨bV R a (R b),R b,a,b,⟨?_,?_⟩,?_,ha,hb,λe=>nb.2 e.symm,na,nb.1,ZW _ _ _,Zx _ _ nb.2,?_⟩
 ·intro i hi ni;by_cases e:i=a
  ·subst e;rw[ZW];exact yz
  ·rw[Zx _ _ e];exact h.le i hi ni
 ·
  have c1:=oK (g:=kr W (bV R a (R b)) M) (h:=upd (kr W R M) a 0) (p:=a) 16 ha (λi _ e=>by rw[Zl _ _ e,kr,kr,Zx _ _ e]);have c2:=oK (g:=kr W R M) (h:=upd (kr W R M) a 0) (p:=a) 16 ha (λi _ e=>by rw[Zl _ _ e]);rw[ZL]at c1 c2;rw[bp (R:=bV R a (R b)) na,ZW]at c1;rw[bp na]at c2
  have hd:(2:Int)^(M-R b) ∣ YY (upd (kr W R M) a 0) 16:=Ma 16 (λi hi=>by
   by_cases e:i=a
   ·subst e;rw[ZL];exact⟨0,by simp⟩
   ·rw[Zl _ _ e,kr];split
    ·exact⟨0,by simp⟩
    ·rename_i ni
     have:=mb i hi ⟨ni,e⟩
     exact⟨2^(R b-R i),by rw[<-Ea];congr 1;omega⟩)
  obtain⟨j,hj⟩:=hd;have hs:=h.sum;have h1:=pow_pos (M-R a);have h2:=pow_pos (M-R b);have hM:(2:Int)^M=2^(M-R b)*2^R b:=by rw[<-Ea];congr 1;omega
  generalize (2:Int)^(M-R b)=u at*;generalize (2:Int)^R b=v at*;have hlt:u*j<u*v:=by omega
  have kh:=Int.lt_of_mul_lt_mul_left hlt (by omega);have h3:u*(j+1)<=u*v:=Int.mul_le_mul_of_nonneg_left (by omega) (by omega);rw[Int.mul_add,Int.mul_one]at h3;omega
 ·have c1:=oK (g:=cs W (bV R a (R b))) (h:=cs W R) (p:=a) 16 ha (λi _ e=>by rw[cs,cs,Zx _ _ e])
  have h1:cs W (bV R a (R b)) a<=cs W R a:=by
   unfold cs;rw[ZW];exact Int.mul_le_mul_of_nonneg_left (by have:=ma b hb nb.1;omega) (hW a ha)
  omega
 ·intro i hi ni;by_cases e:i=a
  ·subst e;rw[ZW];exact nl _
  ·rw[Zx _ _ e];exact mb i hi ⟨ni,e⟩
theorem Eb(h:Fit W M R){p a:Nat}(hp:p<16)(ha:a<16)(hne:p≠a)(np:W p≠0)(na:W a≠0)(hw:W p<=W a)(hr:R p<=R a) :
 Fit W M (bV (bV R p (R a)) a (R p))/\YY (cs W (bV (bV R p (R a)) a (R p))) 16<=YY (cs W R) 16:=by
 have ep:bV (bV R p (R a)) a (R p) p=R a:=by rw[Zx _ _ hne,ZW]
 have ea:bV (bV R p (R a)) a (R p) a=R p:=ZW _ _ _;have eo:∀i,i≠p->i≠a->bV (bV R p (R a)) a (R p) i=R i:=λi h1 h2=>by rw[Zx _ _ h2,Zx _ _ h1]
 generalize bV (bV R p (R a)) a (R p)=R1 at*;refine⟨⟨λi hi ni=>?_,?_⟩,?_⟩
 ·by_cases e1:i=p
  ·subst e1;rw[ep];exact h.le a ha na
  ·by_cases e2:i=a
   ·subst e2;rw[ea];exact h.le p hp np
   ·rw[eo i e1 e2];exact h.le i hi ni
 ·have c:=r7 (g:=kr W R1 M) (h:=kr W R M) hp ha hne (λi _ h1 h2=>by rw[kr,kr,eo i h1 h2]);rw[bp np,bp na,bp np,bp na,ep,ea]at c;have:=h.sum;omega
 ·have c:=r7 (g:=cs W R1) (h:=cs W R) hp ha hne (λi _ h1 h2=>by rw[cs,cs,eo i h1 h2]);unfold cs at c |-
  rw[ep,ea]at c;have h1:0<=(W a-W p)*((R a:Int)-(R p:Int)):=Int.mul_nonneg (by omega) (by omega);rw[Int.sub_mul,Int.mul_sub,Int.mul_sub]at h1;omega
theorem Mc(hW:∀i,i<16->0<=W i)(h:Fit W M R){p q:Nat}(hp:p<16)(hq:q<16)(hne:p≠q)(np:W p≠0)(nq:W q≠0)
 (lp:∀i,i<16->W i≠0->W p<=W i) (lq:∀i,i<16->W i≠0->i≠p->W q<=W i) :
 ∃R1 y,Fit W M R1/\YY (cs W R1) 16<=YY (cs W R) 16/\R1 p=y/\R1 q=y:=by
 obtain⟨R1,y,a,b,f1,c1,ha,hb,hab,na,nb,ea,eb,mx⟩:=Mb hW h hp hq hne np nq
 have s1:∃R2 b,Fit W M R2/\YY (cs W R2) 16<=YY (cs W R1) 16/\R2 p=y/\b<16/\b≠p/\W b≠0/\R2 b=y/\∀i,i<16->W i≠0->R2 i<=y:=by
  by_cases e:R1 p=y
  ·by_cases e2:b=p
   ·exact⟨R1,a,f1,Int.le_refl _,e,ha,by omega,na,ea,mx⟩
   ·exact⟨R1,b,f1,Int.le_refl _,e,hb,e2,nb,eb,mx⟩
  ·have hpa:p≠a:=λh=>e (by rw[h];exact ea)
   have hpb:b≠p:=λh=>e (by rw[<-h];exact eb)
   obtain⟨f2,c2⟩:=Eb f1 hp ha hpa np na (lp a ha na) (by rw[ea];exact mx p hp np);refine⟨_,b,f2,c2,by rw[Zx _ _ hpa,ZW,ea],hb,hpb,nb,by rw[Zx _ _ (λe=>hab e.symm),Zx _ _ hpb];exact eb,λi hi ni=>?_⟩;by_cases e1:i=a
   ·subst e1;rw[ZW];exact mx p hp np
   ·rw[Zx _ _ e1];by_cases e2:i=p
    ·subst e2;rw[ZW,ea];exact nl _
    ·rw[Zx _ _ e2];exact mx i hi ni
 obtain⟨R2,b,f2,c2,ep,hb,hbp,nb,eb,mx⟩:=s1;by_cases e:R2 q=y
 ·exact⟨R2,y,f2,by omega,ep,e⟩
 ·have pC:q≠b:=λh=>e (by rw[h];exact eb)
  obtain⟨f3,c3⟩:=Eb f2 hq hb pC nq nb (lq b hb nb hbp) (by rw[eb];exact mx q hq nq);exact⟨_,y,f3,by omega,by rw[Zx _ _ (λe=>hbp e.symm),Zx _ _ hne];exact ep,by rw[Zx _ _ pC,ZW];exact eb⟩
theorem uU(hne:p≠q):rW W p q (min p q)=W p+W q/\rW W p q (max p q)=0/\∀i,i≠p->i≠q->rW W p q i=W i:=by
 refine⟨ZL _ _ _,?_,λi h1 h2=>?_⟩
 ·unfold rW;rw[Zl _ _ (by omega)];by_cases h:p<=q
  ·rw[show max p q=q by omega,ZL]
  ·rw[show max p q=p by omega,Zl _ _ (by omega),ZL]
 ·unfold rW;rw[Zl _ _ (by omega),Zl _ _ h2,Zl _ _ h1]
theorem uV(hp:p<16)(hq:q<16)(hne:p≠q)(e:∀i,i<16->i≠p->i≠q->g i=h i):YY g 16+h (min p q)+h (max p q)=YY h 16+g p+g q:=by
 have c:=r7 hp hq hne e;by_cases h9:p<=q
 ·rw[show min p q=p by omega,show max p q=q by omega];omega
 ·rw[show min p q=q by omega,show max p q=p by omega];omega
theorem Md(hW:∀i,i<16->0<=W i)(h:Fit W M R){p q y:Nat}(hp:p<16)(hq:q<16)(hne:p≠q)(np:W p≠0)(nq:W q≠0)(ep:R p=y)(eq:R q=y) :
 Fit (rW W p q) M (bV R (min p q) (y-1))/\YY (cs (rW W p q) (bV R (min p q) (y-1))) 16+W p+W q=YY (cs W R) 16:=by
 obtain⟨w1,w2,w3⟩:=uU (W:=W) hne;have yz:=h.le p hp np;rw[ep]at yz;have Ec:=hW p hp;have Ed:=hW q hq;have nn:¬rW W p q (min p q)=0:=by rw[w1];omega
 have hmm:max p q≠min p q:=by omega
 have hy:1<=y:=by
  rcases Nat.eq_zero_or_pos y with h0|h0
  ·exfalso
   have c:=r7 (g:=upd (upd (kr W R M) p 0) q 0) (h:=kr W R M) hp hq hne (λi _ h1 h2=>by rw[Zl _ _ h2,Zl _ _ h1])
   have g0:=rj (W:=upd (upd (kr W R M) p 0) q 0) 16 (λi _=>by
    unfold upd;split
    ·exact Int.le_refl _
    ·split
     ·exact Int.le_refl _
     ·exact D8 _ _ _ _)
   rw[ZL,Zl _ _ hne,ZL,bp np,bp nq,ep,eq,h0]at c;have h1:=pow_pos M;have hs:=h.sum;rw[show M-0=M from rfl]at c;omega
  ·exact h0
 refine⟨⟨λi hi ni=>?_,?_⟩,?_⟩
 ·by_cases e1:i=min p q
  ·rw[e1,ZW];omega
  ·rw[Zx _ _ e1];by_cases e2:i=max p q
   ·exact absurd (by rw[e2];exact w2) ni
   ·rw[w3 i (by omega) (by omega)]at ni;exact h.le i hi ni
 ·have c:=uV (g:=kr W R M) (h:=kr (rW W p q) (bV R (min p q) (y-1)) M) hp hq hne (λi _ h1 h2=>by rw[kr,kr,w3 i h1 h2,Zx _ _ (by omega)]);rw[bp np,bp nq,ep,eq,bp nn,ZW]at c;have e0:kr (rW W p q) (bV R (min p q) (y-1)) M (max p q)=0:=by rw[kr,ax w2]
  have e1:(2:Int)^(M-(y-1))=2^(M-y)+2^(M-y):=by
   rw[show M-(y-1)=(M-y)+1 by omega,Int.pow_succ];omega
  have:=h.sum;omega
 ·have c:=uV (g:=cs W R) (h:=cs (rW W p q) (bV R (min p q) (y-1))) hp hq hne (λi _ h1 h2=>by rw[cs,cs,w3 i h1 h2,Zx _ _ (by omega)]);have e0:cs (rW W p q) (bV R (min p q) (y-1)) (max p q)=0:=by rw[cs,w2,Int.zero_mul]
  have e1:cs (rW W p q) (bV R (min p q) (y-1)) (min p q)+W p+W q=cs W R p+cs W R q:=by
   unfold cs;rw[w1,ZW,ep,eq,show((y-1:Nat):Int)=(y:Int)-1 by omega,<-Int.add_mul,Int.mul_sub];omega
  omega
def hd:Nat->(Nat->Int)->Nat->Nat
 |0,_=>λ_=>0
 |n+1,W=>if(WJ W 16).2=-1 then λ_=>0 else λi=>if i=(WJ W 16).1.toNat\/i=(WJ W 16).2.toNat then hd n (rW W (WJ W 16).1.toNat (WJ W 16).2.toNat) (min (WJ W 16).1.toNat (WJ W 16).2.toNat)+1 else hd n (rW W (WJ W 16).1.toNat (WJ W 16).2.toNat) i
theorem yA(h:(WJ W 16).2=-1):hd n W=λ_=>0:=by
 cases n with
 |zero=>rfl
 |succ n=>rw[hd,ax h]
theorem yB(h:WJ W 16=((p:Int),(q:Int))):hd (n+1) W=λi=>if i=p\/i=q then hd n (rW W p q) (min p q)+1 else hd n (rW W p q) i:=by
 rw[hd,h,ab (by simp only;omega)];rfl
theorem Me:∀n (W T L:Nat->Int),(∀i,0<=T i)->∀i,dS n W T L i=L i+(hd n W (T i).toNat:Int):=by
 intro n
 induction n with
 |zero=>intro W T L _ i;rw[dS,hd];simp
 |succ n ih =>
  intro W T L hT i;by_cases h:(WJ W 16).2=-1
  ·rw[xq h,yA h];simp
  ·obtain⟨p,q,hpq,hp,hq,hne,np,nq⟩:=oB h;rw[xr hpq,yB hpq,ih _ _ _ (λj=>by unfold Xp;split;omega;exact hT j)];have:=hT i;unfold Xp Xe;by_cases e:T i=p\/T i=q
   ·rw[ax e,ax e];simp only[Int.toNat_natCast];rw[ax (by omega)]
    push_cast
    omega
   ·rw[ab e,ab e];simp only;rw[ab (by omega)]
theorem uW(W:Nat->Int):∀k,(∀i,i<k->W i≠0->(WJ W k).1 ≠ -1/\W (WJ W k).1.toNat<=W i)/\(∀i,i<k->W i≠0->(i:Int)≠(WJ W k).1->(WJ W k).2 ≠ -1/\W (WJ W k).2.toNat<=W i):=by
 intro k
 induction k with
 |zero=>exact⟨λi h=>by omega,λi h=>by omega⟩
 |succ k ih =>
  obtain⟨i1,i2⟩:=ih;have hs:=aas W k;rw[WJ,jF];generalize WJ W k=P at*;obtain⟨A,B⟩:=P;simp only at*;by_cases h0:W k=0
  ·rw[ax h0];refine⟨λi hi ni=>i1 i ?_ ni,λi hi ni=>i2 i ?_ ni⟩<;>(by_cases e:i=k;(subst e;exact absurd h0 ni);omega)
  ·rw[ab h0];by_cases h1:A=-1\/W k<W A.toNat
   ·rw[ax h1];simp only[Int.toNat_natCast];refine⟨λi hi ni=>⟨by omega,?_⟩,λi hi ni ne=>?_⟩
    ·by_cases e:i=k
     ·subst e;exact Int.le_refl _
     ·have:=i1 i (by omega) ni;omega
    ·exact i1 i (by omega) ni
   ·rw[ab h1];by_cases h2:B=-1\/W k<W B.toNat
    ·rw[ax h2];simp only[Int.toNat_natCast];refine⟨λi hi ni=>?_,λi hi ni ne=>⟨by omega,?_⟩⟩
     ·by_cases e:i=k
      ·subst e;omega
      ·exact i1 i (by omega) ni
     ·by_cases e:i=k
      ·subst e;exact Int.le_refl _
      ·have:=i2 i (by omega) ni ne;omega
    ·rw[ab h2];simp only;refine⟨λi hi ni=>?_,λi hi ni ne=>?_⟩
     ·by_cases e:i=k
      ·subst e;omega
      ·exact i1 i (by omega) ni
     ·by_cases e:i=k
      ·subst e;omega
      ·exact i2 i (by omega) ni ne
theorem Mf:∀n (W:Nat->Int),(∀i,i<16->0<=W i)->cnt W 16<=n->∀M R,Fit W M R->YY (cs W (hd n W)) 16<=YY (cs W R) 16:=by
 intro n
 induction n with
 |zero =>
  intro W hW hc M R _;rw[hd,p8 (h:=λ_=>0) 16 (λi _=>by simp[cs])];have h1:YY (λ_=>(0:Int)) 16=0:=by simp[YY]
  rw[h1];exact rj 16 (λi hi=>Int.mul_nonneg (hW i hi) (by omega))
 |succ n ih =>
  intro W hW hc M R hF;by_cases h:(WJ W 16).2=-1
  ·rw[yA h,p8 (h:=λ_=>0) 16 (λi _=>by simp[cs])];have h1:YY (λ_=>(0:Int)) 16=0:=by simp[YY]
   rw[h1];exact rj 16 (λi hi=>Int.mul_nonneg (hW i hi) (by omega))
  ·obtain⟨p,q,hpq,hp,hq,hne,np,nq⟩:=oB h;obtain⟨m1,m2⟩:=uW W 16;rw[hpq]at m1 m2;simp only[Int.toNat_natCast]at m1 m2;obtain⟨R1,y,f1,c1,ep,eq⟩:=Mc hW hF hp hq hne np nq (λi hi ni=>(m1 i hi ni).2) (λi hi ni e=>(m2 i hi ni (by omega)).2);obtain⟨f2,c2⟩:=Md hW f1 hp hq hne np nq ep eq;have c3:=(ux hW hp hq hne np nq).1;have c4:=ih (rW W p q) (uw hW hp hq) (by omega) M _ f2;obtain⟨w1,w2,w3⟩:=uU (W:=W) hne;rw[yB hpq]
   have c5:=uV (g:=cs W (λi=>if i=p\/i=q then hd n (rW W p q) (min p q)+1 else hd n (rW W p q) i)) (h:=cs (rW W p q) (hd n (rW W p q))) hp hq hne (λi _ h1 h2=>by
    rw[cs,cs,w3 i h1 h2,ab (by omega)])
   have e0:cs (rW W p q) (hd n (rW W p q)) (max p q)=0:=by rw[cs,w2,Int.zero_mul]
   have e1:cs (rW W p q) (hd n (rW W p q)) (min p q)+W p+W q=cs W (λi=>if i=p\/i=q then hd n (rW W p q) (min p q)+1 else hd n (rW W p q) i) p+cs W (λi=>if i=p\/i=q then hd n (rW W p q) (min p q)+1 else hd n (rW W p q) i) q:=by
    simp only[cs,true_or,or_true,if_true];rw[w1]
    push_cast
    rw[Int.add_mul,Int.mul_add,Int.mul_add];omega
   omega
theorem Mg:∀n (W:Nat->Int),(∀i,i<16->0<=W i)->cnt W 16<=n->(∀i,hd n W i+1<=cnt W 16\/hd n W i=0)/\(∀i,i<16->W i=0->hd n W i=0)/\(∀M,15<=M->1<=cnt W 16->YY (kr W (hd n W) M) 16=2^M):=by
 intro n
 induction n with
 |zero =>
  intro W hW hc;rw[hd];exact⟨λi=>.inr rfl,λi _ _=>rfl,λM _ h=>by omega⟩
 |succ n ih =>
  intro W hW hc;by_cases h:(WJ W 16).2=-1
  ·rw[yA h];refine⟨λi=>.inr rfl,λi _ _=>rfl,λM _ h1=>?_⟩
   -- one alone
   obtain⟨m1,m2⟩:=uW W 16
   have alone:∀i,i<16->W i≠0->(i:Int)=(WJ W 16).1:=λi hi ni=>by
    by_cases e:(i:Int)=(WJ W 16).1
    ·exact e
    ·exact absurd h (m2 i hi ni e).1
   obtain⟨i,hi,ni⟩:∃i,i<16/\W i≠0:=by
    have:∀k,1<=cnt W k->∃i,i<k/\W i≠0:=by
     intro k
     induction k with
     |zero=>intro h;simp[cnt]at h
     |succ k ih =>
      intro h;rw[cnt]at h;by_cases e:W k=0
      ·rw[ax e]at h;obtain⟨i,hi,ni⟩:=ih (by omega);exact⟨i,by omega,ni⟩
      ·exact⟨k,by omega,e⟩
    exact this 16 h1
   have c:=oK (g:=kr W (λ_=>0) M) (h:=λ_=>0) (p:=i) 16 hi (λj hj ne=>by
    rw[kr];by_cases e:W j=0
    ·rw[ax e]
    ·exfalso
     have a1:=alone j hj e;have a2:=alone i hi ni
     omega)
   rw[bp ni]at c;have z:YY (λ_=>(0:Int)) 16=0:=by simp[YY]
   simp only[Nat.sub_zero]at c;omega
  ·obtain⟨p,q,hpq,hp,hq,hne,np,nq⟩:=oB h;obtain⟨c3,_,c2⟩:=ux hW hp hq hne np nq;obtain⟨i1,i2,i3⟩:=ih (rW W p q) (uw hW hp hq) (by omega);obtain⟨w1,w2,w3⟩:=uU (W:=W) hne;rw[yB hpq];refine⟨λi=>?_,λi hi h0=>?_,λM hM _=>?_⟩
   ·simp only;by_cases e:i=p\/i=q
    ·rw[ax e];have:=i1 (min p q);omega
    ·rw[ab e];have:=i1 i;omega
   ·simp only;have e1:i≠p:=λe=>np (by rw[<-e];exact h0)
    have e2:i≠q:=λe=>nq (by rw[<-e];exact h0)
    rw[ab (by omega)];exact i2 i hi (by rw[w3 i e1 e2];exact h0)
   ·have c:=uV (g:=kr W (λi=>if i=p\/i=q then hd n (rW W p q) (min p q)+1 else hd n (rW W p q) i) M) (h:=kr (rW W p q) (hd n (rW W p q)) M) hp hq hne (λi _ h1 h2=>by
     simp only[kr]
     rw[w3 i h1 h2,ab (show ¬(i=p\/i=q) by omega)])
    have Ec:=hW p hp;have Ed:=hW q hq;have nn:¬rW W p q (min p q)=0:=by rw[w1];omega
    rw[bp np,bp nq,bp nn]at c;have e0:kr (rW W p q) (hd n (rW W p q)) M (max p q)=0:=by rw[kr,ax w2]
    simp only[true_or,or_true,if_true]at c;have hb:=i1 (min p q);have hc16:=rk W 16
    have e1:(2:Int)^(M-hd n (rW W p q) (min p q))=2^(M-(hd n (rW W p q) (min p q)+1))+2^(M-(hd n (rW W p q) (min p q)+1)):=by
     rw[show M-hd n (rW W p q) (min p q)=(M-(hd n (rW W p q) (min p q)+1))+1 by omega,Int.pow_succ];omega
    have:=i3 M hM (by omega);omega
theorem Mh :∀k,(∀i,i<k->¬(0<c i/\f i=0))->aap f c k=some (YY (λi=>c i*f i) k):=by
 intro k
 induction k with
 |zero=>intro _;rfl
 |succ k ih =>
  intro h;rw[aap,ih (λi hi=>h i (by omega))];simp only;rw[ab (h k (by omega)),YY]
theorem Ee :∀k n,aap f c k=some n->(∀i,i<k->¬(0<c i/\f i=0))/\n=YY (λi=>c i*f i) k:=by
 intro k
 induction k with
 |zero=>intro n h;simp[aap]at h;exact⟨λi h=>by omega,by rw[<-h];rfl⟩
 |succ k ih =>
  intro n h;rw[aap]at h
  cases hq:aap f c k with
  |none=>rw[hq]at h;simp at h
  |some m =>
   rw[hq]at h;simp only at h;split at h
   ·simp at h
   ·rename_i h9
    simp only[Option.some.injEq]at h;obtain⟨h1,h2⟩:=ih m hq;refine⟨λi hi=>?_,by rw[YY,<-h2,<-h]⟩;by_cases e:i=k
    ·subst e;exact h9
    ·exact h1 i (by omega)
theorem yC(f:Nat->Int):∀k,Wp f k=YY (λi=>YF (f i)) k:=by
 intro k
 induction k with
 |zero=>rfl
 |succ k ih=>rw[Wp,YY,ih]
theorem Ef :∀k,(∀i,i<k->g i<=h i)->YY g k<=YY h k:=by
 intro k
 induction k with
 |zero=>intro _;exact Int.le_refl _
 |succ k ih=>intro e;rw[YY,YY];have:=e k (by omega);have:=ih (λi hi=>e i (by omega));omega
theorem Mi{r:Nat->Int}(hr:Wj r=0)(hn:∀i,i<16->¬(0<c i/\r i=0))(hc:∀i,i<16->0<=c i):Fit c 15 (λi=>(r i).toNat):=by
 obtain⟨h1,_,h3⟩:=Yc hr;refine⟨λi hi _=>by have:=h1 i hi;omega,?_⟩;rw[yC]at h3;refine Int.le_trans (Ef 16 (λi hi=>?_)) (show YY (λi=>YF (r i)) 16<=2^15 from h3);have h4:=h1 i hi;have h5:=hc i hi;have h6:=hn i hi;rw[kr];split
 ·exact(me h4.1 h4.2).1
 ·rw[pK (by omega)];refine rb ?_;omega
theorem aaw(c:Nat->Int)(h:(VH c).2=0):Wj (VH c).1=0/\(aaq (VH c).1 c).2=0/\∀r,(aaq r c).2=0->(aaq (VH c).1 c).1<=(aaq r c).1:=by
 have hin:Wk c 2048 16:=by
  by_cases h1:Wk c 2048 16
  ·exact h1
  ·rw[VH,ax h1]at h;simp at h
 have kJ:(WJ c 16).1 ≠ -1:=by
  intro h1;rw[VH,ab (λh=>h hin),ax h1]at h;simp at h
 have hc:=λi (hi:i<16)=>(hin i hi).1
 have rest:∀(L:Nat->Int),Wj L=0->(∀i,i<16->¬(0<c i/\L i=0))->(∀r,Wj r=0->(∀i,i<16->¬(0<c i/\r i=0))->YY (λi=>c i*L i) 16<=YY (λi=>c i*r i) 16) →
  Wj L=0/\(aaq L c).2=0/\∀r,(aaq r c).2=0->(aaq L c).1<=(aaq r c).1:=by
  intro L h1 h2 h3
  have e1:aaq L c=(YY (λi=>c i*L i) 16,0):=by
   rw[aaq,ab (λh=>h h1),ab (λh=>h hin),Mh 16 h2]
  refine⟨h1,by rw[e1],λr hr=>?_⟩;rw[e1];unfold aaq at hr |-
  by_cases r1:Wj r=0
  ·rw[ab (λh=>h r1),ab (λh=>h hin)]at hr |-
   cases hq:aap r c 16 with
   |none=>rw[hq]at hr;simp at hr
   |some m =>
    obtain⟨a1,a2⟩:=Ee 16 m hq;simp only;rw[a2];exact h3 r r1 a1
  ·rw[ax r1]at hr;simp only at hr;exact absurd hr r1
 have hmn:=uW c 16;by_cases eu:(WJ c 16).2=-1
 ·
  have e:(VH c).1=upd (λ_=>0) (WJ c 16).1.toNat 1:=by rw[VH,ab (λh=>h hin),ab kJ,ax eu]
  rw[e];obtain⟨s1,_⟩:=aas c 16;rcases s1 with s1|⟨p,e1,hp,np⟩
  ·exact absurd s1 kJ
  rw[e1,Int.toNat_natCast]
  have alone:∀i,i<16->c i≠0->i=p:=λi hi ni=>by
   by_cases e:(i:Int)=(WJ c 16).1
   ·omega
   ·exact absurd eu (hmn.2 i hi ni e).1
  have hsm:Wp (upd (λ_=>0) p 1) 16=16384:=by
   rw[yC];have cc:=oK (g:=λi=>YF (upd (λ_=>0) p 1 i)) (h:=λ_=>0) (p:=p) 16 hp (λj hj ne=>by rw[Zl _ _ ne];exact aam (by omega));simp only at cc;rw[ZL,pK (by omega)]at cc;have z:YY (λ_=>(0:Int)) 16=0:=by simp[YY]
   have z2:(2:Int)^(15-(1:Int)).toNat=16384:=by decide
   omega
  refine rest _ (aao (λi hi=>?_) (by omega)) (λi hi h9=>?_) (λr r1 r2=>?_)
  ·by_cases e9:i=p
   ·rw[e9,ZL];omega
   ·rw[Zl _ _ e9];omega
  ·have:=alone i hi (by omega);subst this;rw[ZL]at h9;omega
  ·refine Ef 16 (λi hi=>?_);have h5:=hc i hi;have h4:=(Yc r1).1 i hi;by_cases e:c i=0
   ·rw[e];omega
   ·have e2:=alone i hi e;subst e2;rw[ZL];have:=r2 i hi;exact Int.mul_le_mul_of_nonneg_left (by omega) h5
 ·have e:(VH c).1=dS 16 c (λi=>i) (λ_=>0):=by rw[VH,ab (λh=>h hin),ab kJ,ab eu]
  have e2:∀i,(VH c).1 i=(hd 16 c i:Int):=λi=>by rw[e,Me 16 c _ _ (λi=>by omega)];simp
  obtain⟨p,q,hpq,hp,hq,hne,np,nq⟩:=oB eu;obtain⟨c3,_,c2⟩:=ux hc hp hq hne np nq;obtain⟨f1,f2,f3⟩:=Mg 16 c hc (rk c 16);have f4:=f3 15 (nl _) (by omega);have c16:=rk c 16;have hb:∀i,hd 16 c i<=15:=λi=>by have:=f1 i;omega
  -- what weighs has a word
  have hw:∀i,i<16->c i≠0->1<=hd 16 c i:=λi hi ni=>by
   rcases Nat.eq_zero_or_pos (hd 16 c i) with h0|h0
   ·exfalso
    obtain⟨j,hj,nj,hij⟩:∃j,j<16/\c j≠0/\i≠j:=by
     by_cases e:i=p
     ·exact⟨q,hq,nq,by omega⟩
     ·exact⟨p,hp,np,e⟩
    have cc:=r7 (g:=upd (upd (kr c (hd 16 c) 15) i 0) j 0) (h:=kr c (hd 16 c) 15) hi hj hij (λk _ h1 h2=>by rw[Zl _ _ h2,Zl _ _ h1])
    have g0:=rj (W:=upd (upd (kr c (hd 16 c) 15) i 0) j 0) 16 (λk _=>by
     unfold upd;split
     ·exact Int.le_refl _
     ·split
      ·exact Int.le_refl _
      ·exact D8 _ _ _ _)
    rw[ZL,Zl _ _ hij,ZL,bp ni,bp nj,h0]at cc;have:=pow_pos (15-hd 16 c j);rw[show 15-0=15 from rfl]at cc;omega
   ·exact h0
  have hsm:Wp (VH c).1 16=32768:=by
   rw[yC,p8 (h:=kr c (hd 16 c) 15) 16 (λi hi=>?_),f4]
   ·rfl
   ·rw[e2 i,kr];by_cases ni:c i=0
    ·rw[ax ni,f2 i hi ni];exact aam (by omega)
    ·have:=hw i hi ni;have h15:=hb i;rw[ab ni,pK (by omega)]
     congr 1
     omega
  refine rest _ (aao (λi hi=>?_) (by omega)) (λi hi h9=>?_) (λr r1 r2=>?_)
  ·rw[e2 i];have:=hb i;omega
  ·rw[e2 i]at h9;have:=hw i hi (by omega);omega
  ·have b:=Mf 16 c hc (rk c 16) 15 _ (Mi r1 r2 hc);rw[p8 (h:=cs c (hd 16 c)) 16 (λi hi=>by rw[cs,e2 i])];refine Int.le_trans b (Int.le_of_eq (p8 16 (λi hi=>?_)));have h4:=(Yc r1).1 i hi;rw[cs,Int.toNat_of_nonneg h4.1]
end Go.Proofs.YtbjbjbpgmojcbacGreatDoor.Cd
namespace Go.Proofs.YtbjbjbpgmojcbacGreatDoor
open Ar Bk Cd Dk Im Tk Tr Vy
open Tryz
variable{p:Bool}{S dict s x:ByteArray}{l:List Tk.T}{l':List UInt8}{cp d f g gb k n q:Nat}{t:Tk.T}{v:Value}{w w':World}
open Go.RowKit
def kK(dict s:ByteArray):Option (List Tk.T) :=
 match Tk.D s with
 |none=>none
 |some l=>if l.length<=512/\Zw dict l=0 then some l else none
theorem yD(h1:Tk.D s=(Tk.D S).map (l++·))(h2:Tk.D S=none):kK dict s=none:=by
 unfold kK;rw[h1,h2];rfl
theorem Eh(h1:Tk.D s=(Tk.D S).map (l++·))(h2:512<l.length):kK dict s=none:=by
 unfold kK;rw[h1]
 cases Tk.D S with
 |none=>rfl
 |some m =>
  simp only[Option.map_some];rw[ab];simp;omega
theorem Ei(h1:Tk.D s=(Tk.D S).map (l++·))(h2:S.size=0)(h3:l.length<=512):kK dict s=if Zw dict l=0 then some l else none:=by
 unfold kK;rw[h1,uF h2];simp[h3]
theorem Ej{S2:ByteArray}(h1:Tk.D s=(Tk.D S).map (l++·))(h2:Wu S=some (t,k))(h3:S.extract k S.size=S2):Tk.D s=(Tk.D S2).map ((l++[t])++·):=by
 rw[h1,Yr h2,h3]
 cases Tk.D S2<;>simp
theorem Mj{B size o:Nat}{e:TypeId}{xs:List Value}(h:w.ownsRow B e size v n xs)(hne:v.ownBlock≠some q)(x:Value):(w.setCell ⟨q,o,none⟩ x).ownsRow B e size v n xs :=
 h.kept (row:=some q) ⟨rfl,rfl,rfl,by simp[World.setCell],λk _ hk=>jB _ _ _ _ (λe=>hk (by rw[e]))⟩ (.inr hne)
theorem uX(w:World)(g:Nat)(hg:g=w.heap.size)(x y z:Value)(T:TypeId):∀j u,[x,y,z][j]?=some u->(w.alloc (.cells #[x,y,z] T)).cell? ((⟨g,0,none⟩:Addr).add j)=some u:=by
 subst hg;exact nJ w x y z T
theorem Ek(w:World)(a:Addr)(x:Value):(w.setCell a x).heap.size=w.heap.size:=by simp[World.setCell]
def yE(l:List Tk.T)(n:Nat):Prop:=∀t∈l,t.lit.size<=n
theorem El(dict s:ByteArray)(w:World)(hs:s.size<=140737488355328) :
 Calls prog 125 #[.string dict,.string s] w λe w'=>ae w w' ∧
  ((kK dict s=none/\e=.returned (.tuple #[.slice none 0 0,.bool false]))\/∃l ad cap,kK dict s=some l/\e=.returned (.tuple #[.slice ad l.length cap,.bool true])/\cJ w' ad l):=by
 obtain⟨i0,hi,hz0,hz1,hz2⟩:=info_parts rz;generalize rB:kK dict s=RO at*;have kH:=Za rB;clear rB;go_enter func125,ntmps125
 go_wp2_with fail
 go_loopw [1,6] (λx v wr=>∃(S:ByteArray) (l:List Tk.T),x=.string S/\wr.ownsRow w.heap.size 177 3 v l.length (tcs l)/\Hid (Tk.D s=(Tk.D S).map (l++·)) ∧
  l.length<=512/\S.size<=140737488355328/\Hid (yE l 140737488355328)/\ae w wr)
  (λx _ _=>Da x)
 case atStart =>
  refine⟨s,[],rfl,World.ownsRow_nil _ _ _ _,?_,by simp,hs,λt ht=>by simp at ht,bR _ _⟩;show _=_
  cases Tk.D s<;>rfl
 case round =>
  obtain⟨S,l,rfl,hown,hD,hl,hS,kL,G⟩:=hrel;have hgs:=G.size;by_cases h0:S.size=0
  ·have hE0:=kx h0;obtain⟨ad,cap,rfl,hsl⟩:=rA hown
   have r8:bu l:=⟨by omega,kL.out⟩
   have hc:=λw hsl=>Cp dict ad cap l w hsl r8
   generalize hP:gZ dict l=PO at*;clear hP;by_cases hck:Zw dict l=0
   ·have HX:Hid (RO=some l):=by
     show _=_;rw[<-kH.out,Ei hD.out h0 hl,ax hck]
    rw[hck]at hc;clear hown hD hck;go_wp2_with fail
    refine mo (hc _ hsl) λw1 hb1=>?_
    clear hc;go_wp2_with fail
    go_ret2
    exact⟨ag G hb1,.inr ⟨l,ad,cap,HX.out,rfl,hsl.below hb1⟩⟩
   ·have HX:Hid (RO=none):=by
     show _=_;rw[<-kH.out,Ei hD.out h0 hl,ab hck]
    have hne:(Zw dict l != 0)=true:=by simpa using hck
    generalize Zw dict l=E at*;clear hown hD hck;go_wp2_with fail
    refine mo (hc _ hsl) λw1 hb1=>?_
    clear hc;go_wp2_with fail
    go_ret2
    exact⟨ag G hb1,.inl ⟨HX.out,rfl⟩⟩
  ·have hE0:=ky h0
   cases hf:Zt S.data.toList with
   |none =>
    have HX:Hid (RO=none):=by
     show _=_;rw[<-kH.out];exact yD hD.out (Ys h0 (by simp[Wu,hf]))
    have hc:=λw=>wU S w (by omega) hf
    clear hf hD;go_wp2_with fail
    refine mo (hc _) λw1 hb1=>?_
    clear hc;go_wp2_with fail
    go_ret2
    exact⟨ag G hb1,.inl ⟨HX.out,rfl⟩⟩
   |some x =>
    obtain⟨n,k⟩:=x;have hc:=λw=>ra S w n k (by omega) hf
    have hnb:=WM hf;have hn:(n:Int)<=2147483647:=by omega
    have UW:k<=S.size:=by simpa using hnb.2.2.1
    obtain⟨r,hr⟩:∃r,S.extract k S.size=r:=⟨_,rfl⟩
    have hrs:r.size=S.size-k:=by rw[<-hr,XT]
    have qa:=Za hrs;have hrb:r.size<=140737488355328:=by omega
    rw[hr]at hc;by_cases ho:n%2=1
    ·have ho1:((n:Int)%2==0)=false:=by simp;omega
     have hq2:(n:Int)/2<=2147483647:=by omega
     cases hg:Zt r.data.toList with
     |none =>
      have HX:Hid (RO=none):=by
       show _=_;rw[<-kH.out];refine yD hD.out (Ys h0 ?_);unfold Wu;rw[hf];simp only;rw[ax ho,hr,hg]
      have hc2:=λw=>wU r w (by omega) hg
      clear hf hD hg hr hrs hnb ho;go_wp2_with fail
      refine mo (hc _) λw1 hb1=>?_
      clear hc;have G1:=ag G hb1;have dC:=G1.size;go_wp2_with fail
      refine mo (hc2 _) λw2 hb2=>?_
      clear hc2;obtain⟨q0,q1,q2,q3,q4,q5⟩:=iL hb2;go_wp2_with fail
      go_ret2
      exact⟨((ag (G1.alloc dC _) hb2).setCell (p:=⟨w1.heap.size,1,none⟩) dC _),.inl ⟨HX.out,rfl⟩⟩
     |some y =>
      obtain⟨f,j⟩:=y
      have hone:Wu S=some (⟨⟨#[]⟩,f,(n/2:Nat)⟩,k+j):=by
       unfold Wu;rw[hf];simp only;rw[ax ho,hr,hg]
      obtain⟨S2,hS2⟩:∃S2,r.extract j r.size=S2:=⟨_,rfl⟩
      have hSS:S.extract (k+j) S.size=S2:=by
       rw[<-hS2,<-hr];apply ZN;rw[WG,WG,WG,List.drop_drop]
      have HD2:=Za (Ej hD.out hone hSS);have hnn:((n/2:Nat):Int)=(n:Int)/2:=by omega
      rw[hnn]at HD2;have hc2:=λw=>ra r w f j (by omega) hg
      rw[hS2]at hc2
      have HS:Hid (S2.size<S.size):=by
       show _<_;have:=YG hone;rw[<-hSS,XT];omega
      have kI:S2.size<=140737488355328:=by have:=HS.out;omega
      have HO:=Za hown;clear hf hD hg hr hrs hnb ho hone hS2 hSS hnn hown;go_wp2_with fail
      refine mo (hc _) λw1 hb1=>?_
      clear hc;have G1:=ag G hb1;have dC:=G1.size;have pU:=Zz HO.out hb1;go_wp2_with fail
      refine mo (hc2 _) λw2 hb2=>?_
      clear hc2;obtain⟨q0,q1,q2,q3,q4,q5⟩:=iL hb2;have hneq:u6.ownBlock≠some w1.heap.size:=λe=>by have:=(pU.lt _ e).2;omega
      have kC:=Mj (o:=1) (Zz (pU.alloc _) hb2) hneq (.int .i64 f);have G2:=(ag (G1.alloc dC _) hb2).setCell (p:=⟨w1.heap.size,1,none⟩) dC (.int .i64 f);have iK:=G2.size;rw[Ek]at iK;have hsz2:=Ek w2 ⟨w1.heap.size,1,none⟩ (.int .i64 f);have mv:=Za hsz2;clear hsz2;by_cases yF:512<l.length+1
      ·have HX:Hid (RO=none):=by
        show _=_;rw[<-kH.out];exact Eh HD2.out (by simp;omega)
       have hd1:=al (by omega:(512:Int)<(l.length:Int)+1);go_wp2_with (at_builtin;go_must (refine kd _ rfl _ _ 146 rfl w.heap.size 177 i0 (.agg #[.string ⟨#[]⟩,.int .i64 0,.int .i64 0]) 3 32 fu hi hz0 hz1 hz2 rfl (by decide) _ l.length (tcs l) rfl (kC.alloc _) ⟨w2.heap.size,0,none⟩ 1 1 [.string ⟨#[]⟩,.int .i64 f,.int .i64 ((n:Int)/2)] rfl rfl (uX _ _ mv.out.symm _ _ _ _) (fA _ _ _ rfl rfl rfl) (by decide) (fb (by omega)) (by omega) (ZR _ (by rw[mv.out];exact iK)) _ rfl ?_;intro g4 cp4 w4 hown4 hgrow4 _ _))
       go_ret2
       exact⟨(G2.alloc G2.size _).grown hgrow4 (ZR _ G2.size) (λk hk=>(kC.lt k hk).1),.inl ⟨HX.out,rfl⟩⟩
      ·have hd1:=dF (by omega:¬((512:Int)<(l.length:Int)+1));go_wp2_with (at_builtin;go_must (refine kd _ rfl _ _ 146 rfl w.heap.size 177 i0 (.agg #[.string ⟨#[]⟩,.int .i64 0,.int .i64 0]) 3 32 fu hi hz0 hz1 hz2 rfl (by decide) _ l.length (tcs l) rfl (kC.alloc _) ⟨w2.heap.size,0,none⟩ 1 1 [.string ⟨#[]⟩,.int .i64 f,.int .i64 ((n:Int)/2)] rfl rfl (uX _ _ mv.out.symm _ _ _ _) (fA _ _ _ rfl rfl rfl) (by decide) (fb (by omega)) (by omega) (ZR _ (by rw[mv.out];exact iK)) _ rfl ?_;intro g4 cp4 w4 hown4 hgrow4 _ _))
       go_roundw
       case rel =>
        have htc:tcs (l++[⟨⟨#[]⟩,f,(n:Int)/2⟩])=tcs l++[.string ⟨#[]⟩,.int .i64 f,.int .i64 ((n:Int)/2)]:=nI _ _;refine⟨S2,l++[⟨⟨#[]⟩,f,(n:Int)/2⟩],rfl,by rw[htc,List.length_append];exact hown4,HD2,by simp;omega,kI,?_,(G2.alloc G2.size _).grown hgrow4 (ZR _ G2.size) (λk hk=>(kC.lt k hk).1)⟩;intro t ht;rcases List.mem_append.1 ht with h|h
        ·exact kL.out t h
        ·simp at h;subst h;exact Nat.zero_le _
       case measure=>exact HS.out
    ·have ho1:((n:Int)%2==0)=true:=by simp;omega
     obtain⟨m,hm⟩:∃m,n/2=m:=⟨_,rfl⟩
     have hq:(n:Int)/2=(m:Int):=by omega
     by_cases hbig:r.size<m
     ·have HX:Hid (RO=none):=by
       show _=_;rw[<-kH.out];refine yD hD.out (Ys h0 ?_);unfold Wu;rw[hf];simp only;rw[ab ho,ax (by omega)]
      have hd1:=al (by omega:(r.size:Int)<(m:Int));have hd2:=al (by omega:r.size<m);clear hf hD hr hrs hnb ho hm hbig;go_wp2_with fail
      refine mo (hc _) λw1 hb1=>?_
      clear hc;have G1:=ag G hb1;have dC:=G1.size;go_wp2_with fail
      go_ret2
      exact⟨G1.alloc dC _,.inl ⟨HX.out,rfl⟩⟩
     ·have hd1:=dF (by omega:¬((r.size:Int)<(m:Int)));have hd2:=dF (by omega:¬(r.size<m));have hi1:(0:Int)<=(m:Int):=by omega
      have hi2:(m:Int)<=(r.size:Int):=by omega
      have hone:Wu S=some (⟨S.extract k (k+n/2),0,0⟩,k+n/2):=by
       unfold Wu;rw[hf];simp only;rw[ab ho,ab (by omega)]
      rw[hm]at hone
      obtain⟨S2,hS2⟩:∃S2,r.extract m r.size=S2:=⟨_,rfl⟩
      obtain⟨lit,hlit⟩:∃lit,r.extract 0 m=lit:=⟨_,rfl⟩
      have hSS:S.extract (k+m) S.size=S2:=by
       rw[<-hS2,<-hr];apply ZN;rw[WG,WG,WG,List.drop_drop]
      have Em:S.extract k (k+m)=lit:=by
       rw[<-hlit,<-hr];apply ZN;rw[jI,jI,WG];simp
      rw[Em]at hone;have HD2:=Za (Ej hD.out hone hSS)
      have HS:Hid (S2.size<S.size):=by
       show _<_;have:=YG hone;rw[<-hSS,XT];omega
      have kI:S2.size<=140737488355328:=by have:=HS.out;omega
      have yG:Hid (lit.size<=140737488355328):=by
       have:=Db hone;show _<=_;exact nt this hS
      have HO:=Za hown;clear hf hD hr hrs hnb ho hm hone hSS Em hbig hown;go_wp2_with fail
      refine mo (hc _) λw1 hb1=>?_
      clear hc;have G1:=ag G hb1;have dC:=G1.size;have pU:=Zz HO.out hb1;have G2:=G1.alloc dC (.cells #[.string lit,.int .i64 0,.int .i64 0] 177);have kC:=pU.alloc (.cells #[.string lit,.int .i64 0,.int .i64 0] 177);by_cases yF:512<l.length+1
      ·have HX:Hid (RO=none):=by
        show _=_;rw[<-kH.out];exact Eh HD2.out (by simp;omega)
       have hd1:=al (by omega:(512:Int)<(l.length:Int)+1);go_wp2_with (at_builtin;go_must (refine kd _ rfl _ _ 146 rfl w.heap.size 177 i0 (.agg #[.string ⟨#[]⟩,.int .i64 0,.int .i64 0]) 3 32 fu hi hz0 hz1 hz2 rfl (by decide) _ l.length (tcs l) rfl (kC.alloc _) ⟨w1.heap.size+1,0,none⟩ 1 1 [.string lit,.int .i64 0,.int .i64 0] rfl rfl (uX _ _ (by simp) _ _ _ _) (fA _ _ _ rfl rfl rfl) (by decide) (fb (by omega)) (by omega) (ZR _ (ZR _ dC)) _ rfl ?_;intro g4 cp4 w4 hown4 hgrow4 _ _))
       go_ret2
       exact⟨(G2.alloc G2.size _).grown hgrow4 (ZR _ G2.size) (λk hk=>(kC.lt k hk).1),.inl ⟨HX.out,rfl⟩⟩
      ·have hd1:=dF (by omega:¬((512:Int)<(l.length:Int)+1));go_wp2_with (at_builtin;go_must (refine kd _ rfl _ _ 146 rfl w.heap.size 177 i0 (.agg #[.string ⟨#[]⟩,.int .i64 0,.int .i64 0]) 3 32 fu hi hz0 hz1 hz2 rfl (by decide) _ l.length (tcs l) rfl (kC.alloc _) ⟨w1.heap.size+1,0,none⟩ 1 1 [.string lit,.int .i64 0,.int .i64 0] rfl rfl (uX _ _ (by simp) _ _ _ _) (fA _ _ _ rfl rfl rfl) (by decide) (fb (by omega)) (by omega) (ZR _ (ZR _ dC)) _ rfl ?_;intro g4 cp4 w4 hown4 hgrow4 _ _))
       go_roundw
       case rel =>
        have htc:tcs (l++[⟨lit,0,0⟩])=tcs l++[.string lit,.int .i64 0,.int .i64 0]:=nI _ _;refine⟨S2,l++[⟨lit,0,0⟩],rfl,by rw[htc,List.length_append];exact hown4,HD2,by simp;omega,kI,?_,(G2.alloc G2.size _).grown hgrow4 (ZR _ G2.size) (λk hk=>(kC.lt k hk).1)⟩;intro t ht;rcases List.mem_append.1 ht with h|h
        ·exact kL.out t h
        ·simp at h;subst h;exact yG.out
       case measure=>exact HS.out
theorem uY(l:List UInt8):(⟨l.toArray⟩:ByteArray).size=l.length:=by simp[ByteArray.size]
theorem aM.sa{B:Nat}{l:List UInt8}(h:aM w B v l)(hl:l ≠ []):∃g cap,v=.slice (some ⟨g,0,none⟩) l.length cap/\B<=g:=by
 rcases h with⟨_,h⟩|⟨g,cap,h0,h1,_⟩
 ·exact absurd h hl
 ·exact⟨g,cap,h0,h1⟩
def cq(w:World)(B gb:Nat)(l:List UInt8):Prop :=
 B<=gb/\gb<w.heap.size/\w.frozen? ⟨gb,0,none⟩=false ∧
 ((w.cell? ⟨gb,0,none⟩=some (.slice none 0 0)/\l=[])\/∃g cp,w.cell? ⟨gb,0,none⟩=some (.slice (some ⟨g,0,none⟩) l.length cp)/\aM w B (.slice (some ⟨g,0,none⟩) l.length cp) l/\g≠gb)
theorem cq.below{B:Nat}{l:List UInt8}(h:cq w B gb l)(hb:ae w w'):cq w' B gb l:=by
 obtain⟨a,b,c,d⟩:=h;refine⟨a,nT b hb.size,(hb.frozen (by exact b)).trans c,?_⟩;rcases d with⟨d,e⟩|⟨g,cp,d,e,f⟩
 ·exact .inl ⟨(hb.cell (by exact b)).trans d,e⟩
 ·exact .inr ⟨g,cp,(hb.cell (by exact b)).trans d,e.below hb,f⟩
theorem cq.put{B:Nat}(hB:B<=gb)(hg:gb<w.heap.size)(hf:w.frozen? ⟨gb,0,none⟩=false)(hc:(w.cell? ⟨gb,0,none⟩).isSome=true)
 (hne:v.ownBlock≠some gb) (hA:App w w' B v (.slice (some ⟨g,0,none⟩) l'.length cp) l') :
 cq (w'.setCell ⟨gb,0,none⟩ (.slice (some ⟨g,0,none⟩) l'.length cp)) B gb l'/\Below B w (w'.setCell ⟨gb,0,none⟩ (.slice (some ⟨g,0,none⟩) l'.length cp)):=by
 have hgb:some gb≠v.ownBlock:=λe=>hne e.symm
 have hsz:=hA.below.size
 have se:g≠gb:=by
  rcases hA.at_ g rfl with h|h
  ·intro e;subst e;exact hne h
  ·omega
 have hblk:=hA.block gb hg hgb;refine⟨⟨hB,by simpa[World.setCell]using nT hg hsz,?_,.inr ⟨g,cp,?_,?_,se⟩⟩,hA.below.setCell (p:=⟨gb,0,none⟩) hB _⟩
 ·rw[World.frozen?_setCell,World.frozen?_of_block (w:=w) (by exact hblk)];exact hf
 ·obtain⟨u,hu⟩:=Option.isSome_iff_exists.1 hc;refine cS _ _ _ (u:=u) ?_;rw[World.cell?_of_block (w:=w) (by exact hblk)];exact hu
 ·refine hA.own.kept (by simp[World.setCell]) (λk hk=>?_);have:g=k:=by simpa[Value.ownBlock]using hk
  subst this;exact jB _ _ _ _ (by simpa using se)
theorem cq.app{B:Nat}{u:Value}(hB:B<=gb)(hg:gb<w.heap.size)(hf:w.frozen? ⟨gb,0,none⟩=false)(hc:w.cell? ⟨gb,0,none⟩=some u)
 (hne:v.ownBlock≠some gb) (hA:App w w' B v (.slice (some ⟨g,0,none⟩) l'.length cp) l') :
 w'.cell? ⟨gb,0,none⟩=some u/\w'.frozen? ⟨gb,0,none⟩=false/\Hid (cq (w'.setCell ⟨gb,0,none⟩ (.slice (some ⟨g,0,none⟩) l'.length cp)) B gb l')/\Hid (Below B w (w'.setCell ⟨gb,0,none⟩ (.slice (some ⟨g,0,none⟩) l'.length cp))):=by
 have hgb:some gb≠v.ownBlock:=λe=>hne e.symm
 have hblk:=hA.block gb hg hgb;have hP:=cq.put hB hg hf (by rw[hc];rfl) hne hA;exact⟨(fZ (w:=w) (by exact hblk)).trans hc,(fB (w:=w) (by exact hblk)).trans hf,hP.1,hP.2⟩
def dD(w:World)(B gb:Nat)(l:List UInt8)(q:Nat):Prop :=
 cq w B gb l/\q<w.heap.size/\q≠gb/\∀g n cp,w.cell? ⟨gb,0,none⟩=some (.slice (some ⟨g,0,none⟩) n cp)->g≠q
theorem cq.box{B:Nat}{l:List UInt8}(h:cq w B gb l)(o:Obj):dD (w.alloc o) B gb l w.heap.size:=by
 have hb:=(bR w.heap.size w).alloc (nl _) o;refine⟨h.below hb,by simp,by have:=h.2.1;omega,λg n cp hc=>?_⟩;rw[hb.cell (by exact h.2.1)]at hc;rcases h.2.2.2 with⟨d,_⟩|⟨g',cp',d,e,_⟩
 ·rw[d]at hc;simp at hc
 ·rw[d]at hc;simp at hc;have:=(e.lt g' rfl).2;omega
theorem dD.below{B:Nat}{l:List UInt8}(h:dD w B gb l q)(hb:ae w w'):dD w' B gb l q :=
 ⟨h.1.below hb,nT h.2.1 hb.size,h.2.2.1,λg n cp hc=>h.2.2.2 g n cp (by rw[<-hb.cell (by exact h.1.2.1)];exact hc)⟩
theorem dD.app{B:Nat}{l:List UInt8}(h:dD w B gb l q)(hc:w.cell? ⟨gb,0,none⟩=some v)(hne:v.ownBlock≠some gb)
 (hv:v=.slice none 0 0\/∃g n cp,v=.slice (some ⟨g,0,none⟩) n cp) (hA:App w w' B v (.slice (some ⟨g,0,none⟩) l'.length cp) l') :
 w'.cell? ⟨gb,0,none⟩=some v/\w'.frozen? ⟨gb,0,none⟩=false/\Hid (dD (w'.setCell ⟨gb,0,none⟩ (.slice (some ⟨g,0,none⟩) l'.length cp)) B gb l' q)/\Hid (Below B w (w'.setCell ⟨gb,0,none⟩ (.slice (some ⟨g,0,none⟩) l'.length cp))) ∧
  Hid ((w'.setCell ⟨gb,0,none⟩ (.slice (some ⟨g,0,none⟩) l'.length cp)).heap[q]?=w.heap[q]?):=by
 obtain⟨h1,h2,h3,h4⟩:=h
 have hq:some q≠v.ownBlock:=by
  rcases hv with rfl|⟨g',n,cp',rfl⟩
  ·simp[Value.ownBlock]
  ·have:=h4 g' n cp' hc;simp[Value.ownBlock];omega
 obtain⟨a1,a2,a3,a4⟩:=cq.app h1.1 h1.2.1 h1.2.2.1 hc hne hA;have hsz:=hA.below.size;have hblk:=hA.block q h2 hq
 have hgq:g≠q:=by
  rcases hA.at_ g rfl with h|h
  ·intro e;subst e;exact hq h.symm
  ·omega
 have hset:(w'.setCell ⟨gb,0,none⟩ (.slice (some ⟨g,0,none⟩) l'.length cp)).cell? ⟨gb,0,none⟩=some (.slice (some ⟨g,0,none⟩) l'.length cp):=cS _ _ _ a1;refine⟨a1,a2,⟨a3.out,by simpa[World.setCell]using nT h2 hsz,h3,λg' n' cp' hc'=>?_⟩,a4,?_⟩
 ·rw[hset]at hc';simp at hc';omega
 ·show(w'.setCell _ _).heap[q]?=_;rw[Below.heap_setCell _ _ _ _ (by simpa using h3)];exact hblk
theorem yH{ops:Array Oper}{rest:List Oper}{o:Oper}{a:Act}{Q:Exit->Act->World->Prop}(w:World)(hgd:o.guard=none)(sl x:Operand)(ho:o.op=.call { callee:=.builtin .append,args:=#[sl,x],argTypes:=#[29,9] })
 (B:Nat) (v:Value) (l:List UInt8) (hs:a.eval sl=v) (h:aM w B v l) (s:ByteArray) (hx:a.eval x=.string s)
 (hlen:l.length+s.size<=140737488355328) (hB:B<=w.heap.size) (hne:l++s.data.toList ≠ [])
 (hK:∀g cp w',App w w' B v (.slice (some ⟨g,0,none⟩) (l++s.data.toList).length cp) (l++s.data.toList)->wpList prog ops Q rest (a.put o.dst (.slice (some ⟨g,0,none⟩) (l++s.data.toList).length cp)) w'):wpList prog ops Q (o :: rest) a w:=by
 refine da w hgd sl x ho B v l hs h s hx hlen hB (λv' w' hA=>?_);obtain⟨g,cp,rfl,_⟩:=hA.own.sa hne;exact hK g cp w' hA
theorem Mk(B gb:Nat)(l:List UInt8)(n:Int)(w:World)(q:Nat)(hbuf:dD w B gb l q)(hBw:B<=w.heap.size)(h0:0<=n)(h1:n<=2147483647)(hl:l.length<=1000000) :
 Calls prog 181 #[.int .i64 n,.pointer (some ⟨gb,0,none⟩)] w λe w'=>e=.returned (.tuple #[])/\Below B w w'/\dD w' B gb (l++VB n.toNat) q/\w'.heap[q]?=w.heap[q]?:=by
 have hl5:=V3 n.toNat (by omega)
 obtain⟨s,hs⟩:∃s:ByteArray,s=⟨(VB n.toNat).toArray⟩:=⟨_,rfl⟩
 have hsd:s.data.toList=VB n.toNat:=by rw[hs]
 have hs5:s.size<=5:=by rw[hs,uY];exact hl5
 have uZ:Hid (∀l:List UInt8,l++s.data.toList ≠ []):=λl e=>wE n.toNat (by rw[<-hsd];exact(List.append_eq_nil_iff.1 e).2)
 have HL:=Za hsd;have hc:=uq n w h0 h1;rw[<-hs]at hc;clear hs hsd;go_enter func181,ntmps181
 go_wp2_with fail
 refine mo hc λw1 G=>?_
 have hb1:=hbuf.below G;have hBw1:=nt hBw G.size;have HG:=G.mono hBw;have HQ:=Za (G.block q hbuf.2.1);have HB1:=Za hb1;clear hbuf G hc;obtain⟨⟨a,b,c,d⟩,_,_,_⟩:=hb1;have len8:∀l:List UInt8,(l++s.data.toList).length=l.length+s.size:=λl=>by simp
 have Hlen:=Za len8;clear len8;rcases d with⟨d,e⟩|⟨g,cp,d,e,f⟩
 ·subst e;go_wp2_with (at_builtin;go_must (refine yH _ rfl _ _ rfl B (.slice none 0 0) [] rfl (aM.nil _ _) s rfl (by simp;omega) hBw1 (uZ.out _) ?_;intro g1 xj w3 hA;obtain⟨k1,k2,k3,k4,k5⟩:=dD.app HB1.out d (by simp[Value.ownBlock]) (Or.inl rfl) hA))
  go_end0
  have h3:=k3.out;have h4:=k4.out;have h5:=k5.out;rw[Hlen.out,HL.out]at h3;rw[Hlen.out]at h4 h5;simp only[List.length_nil,Nat.zero_add,List.nil_append]at h3 h4 h5;exact⟨rfl,HG.trans h4,h3,h5.trans HQ.out⟩
 ·go_wp2_with (at_builtin;go_must (refine yH _ rfl _ _ rfl B (.slice (some ⟨g,0,none⟩) l.length cp) l rfl e s rfl (by omega) hBw1 (uZ.out _) ?_;intro g1 xj w3 hA;obtain⟨k1,k2,k3,k4,k5⟩:=dD.app HB1.out d (by simp[Value.ownBlock];exact f) (Or.inr ⟨_,_,_,rfl⟩) hA))
  go_end0
  have h3:=k3.out;have h4:=k4.out;have h5:=k5.out;rw[Hlen.out,HL.out]at h3;rw[Hlen.out]at h4 h5;exact⟨rfl,HG.trans h4,h3,h5.trans HQ.out⟩
def Open(w:World)(B gb q:Nat)(l:List UInt8)(x y z:Value)(T:TypeId)(g cp:Nat):Prop :=
 w.cell? ⟨q,0,none⟩=some x/\w.cell? ⟨q,1,none⟩=some y/\w.cell? ⟨q,2,none⟩=some z/\w.frozen? ⟨gb,0,none⟩=false ∧
  w.cell? ⟨gb,0,none⟩=some (.slice (some ⟨g,0,none⟩) l.length cp)/\Hid (aM w B (.slice (some ⟨g,0,none⟩) l.length cp) l)/\g≠gb/\Hid (dD w B gb l q)/\Hid (w.heap[q]?=some (.cells #[x,y,z] T))
theorem dD.open{B:Nat}{l:List UInt8}{x y z:Value}{T:TypeId}(h:dD w B gb l q)(hl:l ≠ [])(hq:w.heap[q]?=some (.cells #[x,y,z] T)):∃g cp,Open w B gb q l x y z T g cp:=by
 have H:=Za h;have e:=λj=>cell_of_row w q j _ _ _ hq
 obtain⟨⟨_,_,c,d⟩,_⟩:=h;rcases d with⟨_,d⟩|⟨g,cp,d1,d2,d3⟩
 ·exact absurd d hl
 ·exact⟨g,cp,by rw[e];rfl,by rw[e];rfl,by rw[e];rfl,c,d1,d2,d3,H,hq⟩
theorem yI(B gb q:Nat)(l:List UInt8)(n:Int)(w:World)(x y z:Value)(T:TypeId)(hbuf:dD w B gb l q)(hq:w.heap[q]?=some (.cells #[x,y,z] T))(hBw:B<=w.heap.size)(h0:0<=n)(h1:n<=2147483647)(hl:l.length<=1000000) :
 Calls prog 181 #[.int .i64 n,.pointer (some ⟨gb,0,none⟩)] w λe w'=>e=.returned (.tuple #[])/\Below B w w'/\∃L2 g cp,Hid (L2=l++VB n.toNat)/\L2.length<=l.length+5/\Open w' B gb q L2 x y z T g cp:=by
 refine mo (Mk B gb l n w q hbuf hBw h0 h1 hl) ?_;rintro w' ⟨hb,hbq,hh⟩;obtain⟨g,cp,ho⟩:=dD.open hbq (by simp[wE]) (hh.trans hq);exact⟨rfl,hb,_,g,cp,rfl,by have:=V3 n.toNat (by omega);simp;omega,ho⟩
def tb(t:Tk.T):List UInt8:=if t.lit.size≠0 then VB (2*t.lit.size)++t.lit.data.toList else VB (2*t.len+1).toNat++VB t.far.toNat
def dj:List Tk.T->List UInt8
 |[]=>[]
 |t :: l=>tb t++dj l
theorem Eo(l:List Tk.T)(t:Tk.T):dj (l++[t])=dj l++tb t:=by
 induction l with
 |nil=>simp[dj]
 |cons a l ih=>simp[dj,ih]
theorem cq.alloc{B:Nat}{l:List UInt8}(h:cq w B gb l)(o:Obj):cq (w.alloc o) B gb l:=h.below ((Below.refl _ _).alloc (Nat.le_refl _) o)
theorem Ml(dict:ByteArray)(ad:Option Addr)(cap:Nat)(l:List Tk.T)(w:World)(hl:cJ w ad l)(hs:bu l)(e0:Int)(he:Zw dict l=e0)(hne:(e0 != 0)=true) :
 CB 133 #[.string dict,.slice ad l.length cap] w (.tuple #[.string ⟨#[]⟩,.int .i64 e0]):=by
 have hc:=λw hl=>Cn dict ad cap l w hl hs
 rw[he]at hc;clear he;go_enter func133,ntmps133
 go_wp2_with fail
 refine mo (hc _ hl) λw1 G=>?_
 clear hc;go_wp2_with fail
 go_ret2
 exact⟨rfl,G⟩
theorem Mm(dict:ByteArray)(b off cap:Nat)(l:List Tk.T)(w:World)(hb:b<w.heap.size)(hl:jE w b off l)(hs:bu l)(hd:dict.size<=256)(s1:List UInt8)(hr:VK dict.size dict.data.toList false l=(0,s1)) :
 CB 133 #[.string dict,.slice (some ⟨b,off,none⟩) l.length cap] w (.tuple #[.string ⟨(dj l).toArray⟩,.int .i64 0]):=by
 have hc:=xi dict b off cap l w hd hb hl hs;rw[hr]at hc;have hd':(dict.size:Int)<=256:=by omega
 have hn':(l.length:Int)<=140737488355328:=by have:=hs.1;omega
 have hmf:∀(fn:Fn) (first cap:Array Value) (w:World),(Instr.makeFunc fn first cap).run prog w=.ok (.func fn first cap) w:=λ_ _ _ _=>rfl
 go_enter func133,ntmps133
 go_wp2_with fail
 refine mo hc λw1 G=>?_
 clear hc;have Hr:=Za hr;clear hr;go_wp2_with fail
 go_loopw [20] (λi wr=>∃(k:Nat) (s:List UInt8) (p:Bool) (L:List UInt8),k<=l.length/\i=.int .i64 k/\cq wr w.heap.size w1.heap.size L/\Hid (L=dj (l.take k))/\L.length+11*dict.size<=11*s.length ∧
  Hid (VK dict.size s p (l.drop k)=(0,s1))/\dict.size<=s.length/\s.length<=dict.size+512/\ae w wr)
  (λi _=>l.length-(intOf i).toNat)
 case atStart =>
  refine⟨0,dict.data.toList,false,[],by omega,rfl,?_,rfl,by simp,Hr,by simp,by simp,G.alloc G.size _⟩;exact⟨G.size,by simp,by rw[World.frozen?_alloc_mark];simp,.inl ⟨by rw[World.cell?_alloc_mark];rfl,rfl⟩⟩
 case round =>
  have hw1:=G.size;clear G;obtain⟨k,s,p,L,hk,rfl,hbuf,hL,UX,hrun,hs1,hs2,G⟩:=hrel;by_cases hlt:k<l.length
  ·have hdrop:=List.drop_eq_getElem_cons hlt;obtain⟨c0,c1,c2⟩:=hl k hlt;rw[<-G.cell (by exact hb)]at c0 c1 c2;rw[hdrop]at hrun
   have HT:Hid (dj (l.take (k+1))=L++tb l[k]):=by
    show _=_;rw[hL.out,<-Eo]
    congr 1
    simp
   clear hdrop hl hs;generalize l[k]=t at*
   have he:VQ dict.size s p t=0:=by
    by_cases h:VQ dict.size s p t=0
    ·exact h
    ·have:=hrun.out;rw[iC h]at this;simp only[Prod.mk.injEq]at this;exact absurd this.1 h
   have HR:Hid (VK dict.size (Wh s t) (decide (t.lit.size≠0)) (l.drop (k+1))=(0,s1)):=by
    have:=hrun.out;rw[Xm he]at this;exact this
   have hmk:=X8 he;have hgs:=G.size;have HB:=Za hbuf;clear hbuf he hrun;by_cases h0:t.lit.size≠0
   ·have hE0:=ky h0
    have yJ:Hid ((Wh s t).length=s.length+t.lit.size):=by
     have:=hmk.2.2.2.1 h0;show _=_;rw[hmk.1,this.2];rfl
    have rE:(t.lit.size:Int)<=512:=by have:=hmk.2.2.2.2;omega
    have kM:Hid ((s.length:Int)-dict.size+t.lit.size<=512):=by have:=hmk.2.2.2.2;show _<=_;omega
    clear hmk;have uZ:Hid (∀l:List UInt8,l++t.lit.data.toList ≠ []):=λl e=>h0 (by simpa using congrArg List.length (List.append_eq_nil_iff.1 e).2)
    have hsd:t.lit.size<=512:=by omega
    go_wp2_with (first|(go_at_call 181;go_must (refine(yI w.heap.size w1.heap.size wr.heap.size L _ _ _ _ _ _ (HB.out.box _) (heap_alloc_new _ _) (ZR _ hgs) (by omega) (by omega) (by omega)).mono ?_;rintro e w3 ⟨rfl,hb3,L2,g3,cp3,HL2,hl2,x1,x2,x3,x4,x5,x6,x7,x8,x9⟩;have oE:=hb3.size;have hsz3:=ZR (.cells #[.string t.lit,.int .i64 t.far,.int .i64 t.len] 177) hgs))|(at_builtin;go_must (refine yH _ rfl _ _ rfl w.heap.size (.slice (some ⟨g3,0,none⟩) L2.length cp3) L2 rfl x6.out t.lit rfl (by omega) (by omega) (uZ.out _) ?_;intro g4 cp4 w4 hA;obtain⟨k1,k2,k3,k4,k5⟩:=dD.app x8.out x5 (by simp[Value.ownBlock];exact x7) (Or.inr ⟨_,_,_,rfl⟩) hA)))
    go_roundw
    case rel =>
     have e1:(L2++t.lit.data.toList).length=L2.length+t.lit.size:=by simp
     have h3:=k3.out;have h4:=k4.out;have e2:=yJ.out;have e3:=kM.out;rw[e1]at h3 h4;refine⟨k+1,Wh s t,_,L2++t.lit.data.toList,by omega,by go_num,h3.1,?_,by rw[e1];omega,HR,by omega,by omega,((G.alloc hgs _).trans hb3).trans h4⟩;show _=_;rw[HT.out,HL2.out,tb,ax h0,List.append_assoc]
     congr 2
    case measure=>simp[intOf];omega
   ·have h00:t.lit.size=0:=by omega
    have hE0:=kx h00;obtain⟨f1,f2,f3,f4⟩:=hmk.2.2.1 h00
    have yJ:Hid ((Wh s t).length=s.length+t.len.toNat):=by
     show _=_;rw[hmk.1,h00];rfl
    have kM:Hid ((s.length:Int)-dict.size+t.len<=512):=by have:=hmk.2.2.2.2;show _<=_;omega
    have tok:=trivial;clear hmk;go_wp2_with (first|(go_at_call 181;have _t:=tok;clear tok;go_must (refine(yI w.heap.size w1.heap.size wr.heap.size L _ _ _ _ _ _ (HB.out.box _) (heap_alloc_new _ _) (ZR _ hgs) (by omega) (by omega) (by omega)).mono ?_;rintro e w3 ⟨rfl,hb3,L2,g3,cp3,HL2,hl2,x1,x2,x3,x4,x5,x6,x7,x8,x9⟩;have oE:=hb3.size;have hsz3:=ZR (.cells #[.string t.lit,.int .i64 t.far,.int .i64 t.len] 177) hgs))|(go_at_call 181;go_must (refine(yI w.heap.size w1.heap.size wr.heap.size L2 _ _ _ _ _ _ x8.out x9.out (by omega) (by omega) (by omega) (by omega)).mono ?_;rintro e w4 ⟨rfl,hb4,L3,g4,cp4,yK,hl3,y1,y2,y3,y4,y5,y6,y7,y8,y9⟩)))
    go_roundw
    case rel =>
     have e2:=yJ.out;have e3:=kM.out;refine⟨k+1,Wh s t,_,L3,by omega,by go_num,y8.out.1,?_,by omega,HR,by omega,by omega,((G.alloc hgs _).trans hb3).trans hb4⟩;show _=_;rw[yK.out,HL2.out,HT.out,tb,ab h0,List.append_assoc]
    case measure=>simp[intOf];omega
  ·have hd1:=dF (by omega:¬((k:Int)<(l.length:Int)));have hd2:=dF (by omega:¬(k<l.length))
   have HE:Hid (dj l=L):=by
    show _=_;rw[hL.out,List.take_of_length_le (by omega)]
   obtain⟨_,_,_,d⟩:=hbuf;rcases d with⟨d,e⟩|⟨g,cp,d,e,f⟩
   ·have hcv:=Lib.run_convert_nil_bytes wr 29 9 5 0 gE U5 U9;subst e;clear hl hs;go_wp2_with fail
    go_ret2
    exact⟨by rw[HE.out];rfl,G⟩
   ·obtain⟨_,_,hq,_,_,_,_,q5⟩:=e.form (by simp);simp only[Value.slice.injEq,Option.some.injEq,Addr.mk.injEq,and_true,true_and]at hq;obtain⟨rfl,rfl⟩:=hq;have hcv:=aM.conv q5 0 cp;simp only[Nat.sub_zero,List.drop_zero]at hcv;clear hl hs q5 e;go_wp2_with fail
    go_ret2
    exact⟨by rw[HE.out];rfl,G⟩
attribute [local go_sem ↓] Go.wp_at_zero Go.wp_at_succ
theorem Mn(dict:ByteArray)(ad:Option Addr)(cap:Nat)(w:World)(hd:dict.size<=256) :
 CB 133 #[.string dict,.slice ad 0 cap] w (.tuple #[.string ⟨#[]⟩,.int .i64 0]):=by
 have hc:=xh dict ad cap w hd;have hmf:∀(fn:Fn) (first cap:Array Value) (w:World),(Instr.makeFunc fn first cap).run prog w=.ok (.func fn first cap) w:=λ_ _ _ _=>rfl
 have hcv:=λw=>Lib.run_convert_nil_bytes (P:=prog) w 29 9 5 0 gE U5 U9
 go_enter func133,ntmps133
 go_wp2_with fail
 refine mo hc λw1 G=>?_
 clear hc;go_wp2_with fail
 refine wp_loop_rounds 1 ?_;rw[rounds_succ];go_wp2_with fail
 go_ret2
 exact⟨rfl,G.alloc G.size _⟩
def u7(dict:ByteArray)(l:List Tk.T):ByteArray:=if Zw dict l≠0 then⟨#[]⟩ else⟨(dj l).toArray⟩
theorem yL(h0:Zw dict l=0):dict.size<=256/\(VK dict.size dict.data.toList false l).1=0:=by
 unfold Zw at h0;by_cases h:256<dict.size
 ·rw[ax h]at h0;omega
 ·rw[ab h]at h0;exact⟨by omega,h0⟩
theorem Mo(dict:ByteArray)(ad:Option Addr)(cap:Nat)(l:List Tk.T)(w:World)(hl:cJ w ad l)(hs:bu l) :
 CB 133 #[.string dict,.slice ad l.length cap] w (.tuple #[.string (u7 dict l),.int .i64 (Zw dict l)]):=by
 unfold u7;by_cases h0:Zw dict l=0
 ·rw[ab (by simpa using h0),h0];obtain⟨hd,h1⟩:=yL h0;rcases hl with rfl|⟨b,off,rfl,hb,ht⟩
  ·exact Mn dict ad cap w hd
  ·exact Mm dict b off cap l w hb ht hs hd _ (by rw[<-h1])
 ·rw[ax h0];exact Ml dict ad cap l w hl hs _ rfl (by simpa using h0)
def Small(l:List Tk.T):Prop:=l.length<=1000/\∀t∈l,t.lit.size<=1000/\0<=t.len/\t.len<=1000/\0<=t.far/\t.far<=1000
theorem nO(t:Tk.T)(h:t.lit.size<=1000/\0<=t.len/\t.len<=1000/\0<=t.far/\t.far<=1000):(tb t).length<=1010:=by
 unfold tb;split
 ·have:=V3 (2*t.lit.size) (by omega);simp;omega
 ·have h1:=V3 (2*t.len+1).toNat (by omega);have h2:=V3 t.far.toNat (by omega);simp;omega
theorem Mp(b off cap:Nat)(l:List Tk.T)(w:World)(hb:b<w.heap.size)(hl:jE w b off l)(hs:Small l) :
 CB 168 #[.slice (some ⟨b,off,none⟩) l.length cap] w (.string ⟨(dj l).toArray⟩):=by
 have hn':(l.length:Int)<=1000:=by have:=hs.1;omega
 go_enter func168,ntmps168
 go_wp2_with fail
 go_loopw [3,4] (λx i wr=>∃(k:Nat) (X:ByteArray),k<=l.length/\i=.int .i64 k/\x=.string X/\Hid (X.data.toList=dj (l.take k))/\X.size<=1010*k/\ae w wr)
  (λ_ i _=>l.length-(intOf i).toNat)
 case atStart=>exact⟨0,⟨#[]⟩,by omega,rfl,rfl,rfl,by decide,bR _ _⟩
 case round =>
  obtain⟨k,X,hk,rfl,rfl,hX,Jj,G⟩:=hrel;by_cases hlt:k<l.length
  ·obtain⟨c0,c1,c2⟩:=hl k hlt;rw[<-G.cell (by exact hb)]at c0 c1 c2
   have HT:Hid (dj (l.take (k+1))=X.data.toList++tb l[k]):=by
    show _=_;rw[hX.out,<-Eo]
    congr 1
    simp
   have hsm:=hs.2 l[k] (gM hlt);have htl:=nO l[k] hsm;clear hl hs;generalize l[k]=t at*;have hi1:(0:Int)<=(k:Int):=by omega
   have hi2:(k:Int)<(l.length:Int):=by omega
   obtain⟨m1,m2,m3,m4,m5⟩:=hsm;have xm:(X.size:Int)<=2000000:=by omega
   by_cases h0:t.lit.size≠0
   ·have hE0:=ky h0;have hls:(t.lit.size:Int)<=1000:=by omega
    have hr1:IntKind.i64.wrap (2*(t.lit.size:Int))=2*(t.lit.size:Int):=IntWalk.i64_in _ ⟨by omega,by omega⟩;have hl5:=V3 (2*(t.lit.size:Int)).toNat (by omega);have yM:¬9223372036854775807<X.size+(VB (2*(t.lit.size:Int)).toNat).length:=by omega
    have yN:¬9223372036854775807<X.size+(VB (2*(t.lit.size:Int)).toNat).length+t.lit.size:=by omega
    go_wp2_with fail
    go_region_held3 (λw'=>w'.cell? ⟨b,off+k*3,none⟩=some (.string t.lit)) (first|go_keep|(rw[hB.cell (by exact Nat.lt_of_lt_of_le hb G.size)];assumption)) (first|(go_at_call 83;refine(ZF (2*t.lit.size) (2*(t.lit.size:Int)) _ (by omega) (by omega) (by omega)).mono ?_;rintro e w1 ⟨rfl,hB⟩))
    go_wp2_with fail
    go_roundw
    case rel =>
     have e1:(X++⟨(VB (2*(t.lit.size:Int)).toNat).toArray⟩++t.lit).data.toList=dj (l.take (k+1)):=by
      rw[Xo,Xo,HT.out,tb,ax h0,List.append_assoc]
      congr 2
     have e2:(X++⟨(VB (2*(t.lit.size:Int)).toNat).toArray⟩++t.lit).size<=1010*(k+1):=by
      rw[Xc,Xc,uY (VB _)];omega
     exact⟨k+1,_,by omega,by go_num,rfl,e1,e2,ag G.drew hB⟩
    case measure=>simp[intOf];omega
   ·have hE0:=kx (s:=t.lit) (by omega);have hr1:IntKind.i64.wrap (2*t.len)=2*t.len:=IntWalk.i64_in _ ⟨by omega,by omega⟩;have hr2:IntKind.i64.wrap (2*t.len+1)=2*t.len+1:=IntWalk.i64_in _ ⟨by omega,by omega⟩;have hl5:=V3 (2*t.len+1).toNat (by omega);have wR:=V3 t.far.toNat (by omega);have yM:¬9223372036854775807<X.size+(VB (2*t.len+1).toNat).length:=by omega
    have yN:¬9223372036854775807<X.size+(VB (2*t.len+1).toNat).length+(VB t.far.toNat).length:=by omega
    go_wp2_with fail
    have hbw:=nT hb G.size;have tok:=trivial;go_region_held3 (λw'=>w'.cell? ⟨b,off+k*3+1,none⟩=some (.int .i64 t.far)/\w'.cell? ⟨b,off+k*3+2,none⟩=some (.int .i64 t.len)) (first|(go_keep;done)|exact⟨(hB2.cell (by exact nT hbw hB1.size)).trans ((hB1.cell (by exact hbw)).trans c1),(hB2.cell (by exact nT hbw hB1.size)).trans ((hB1.cell (by exact hbw)).trans c2)⟩|exact⟨(hB1.cell (by exact hbw)).trans c1,(hB1.cell (by exact hbw)).trans c2⟩) (first|(go_at_call 83;have _t:=tok;clear tok;refine(ZF (2*t.len+1).toNat (2*t.len+1) _ (by omega) (by omega) (by omega)).mono ?_;rintro e w1 ⟨rfl,hB1⟩)|(go_at_call 83;refine(ZF t.far.toNat t.far _ (by omega) (by omega) (by omega)).mono ?_;rintro e w2 ⟨rfl,hB2⟩))
    go_wp2_with fail
    go_roundw
    case rel =>
     have e1:(X++⟨(VB (2*t.len+1).toNat).toArray⟩++⟨(VB t.far.toNat).toArray⟩).data.toList=dj (l.take (k+1)):=by
      rw[Xo,Xo,HT.out,tb,ab h0,List.append_assoc]
     have e2:(X++⟨(VB (2*t.len+1).toNat).toArray⟩++⟨(VB t.far.toNat).toArray⟩).size<=1010*(k+1):=by
      rw[Xc,Xc,uY (VB _),uY (VB _)];omega
     exact⟨k+1,_,by omega,by go_num,rfl,e1,e2,ag (ag G.drew hB1) hB2⟩
    case measure=>simp[intOf];omega
  ·have hd1:=dF (by omega:¬((k:Int)<(l.length:Int)));have hd2:=dF (by omega:¬(k<l.length))
   have HE:Hid (X=⟨(dj l).toArray⟩):=by
    show _=_;apply ZN;rw[hX.out,List.take_of_length_le (by omega)]
   clear hl hs;go_wp2_with fail
   go_ret
   exact⟨by rw[<-HE.out];rfl,G⟩
theorem Mq(ad:Option Addr)(cap:Nat)(w:World) :
 CB 168 #[.slice ad 0 cap] w (.string ⟨#[]⟩):=by
 go_enter func168,ntmps168
 go_wp2_with fail
 refine wp_loop_rounds 1 ?_;rw[rounds_succ];go_wp2_with fail
 go_ret
 exact⟨rfl,bR _ _⟩
theorem Mr(ad:Option Addr)(cap:Nat)(l:List Tk.T)(w:World)(hl:cJ w ad l)(hs:Small l) :
 CB 168 #[.slice ad l.length cap] w (.string ⟨(dj l).toArray⟩):=by
 rcases hl with rfl|⟨b,off,rfl,hb,ht⟩
 ·exact Mq ad cap w
 ·exact Mp b off cap l w hb ht hs
def nP(t:Tk.T):Prop:=(t.lit.size≠0/\t.far=0/\t.len=0/\t.lit.size<=512)\/(t.lit.size=0/\1<=t.far/\t.far<=768/\3<=t.len/\t.len<=64)
theorem Ms{s:List UInt8}(h:(VK d s p (t :: l)).1=0):VQ d s p t=0/\(VK d (Wh s t) (decide (t.lit.size≠0)) l).1=0:=by
 by_cases e:VQ d s p t=0
 ·rw[Xm e]at h;exact⟨e,h⟩
 ·rw[iC e]at h;exact absurd h e
theorem Mt(h:nP t):(tb t).length<=2*(t.lit.size+t.len.toNat):=by
 unfold tb;rcases h with⟨h0,h1,h2,h3⟩|⟨h0,h1,h2,h3,h4⟩
 ·rw[ax h0,List.length_append];have hl:t.lit.data.toList.length=t.lit.size:=by simp
  rw[hl];by_cases h5:2*t.lit.size<128
  ·rw[YW h5];simp only[List.length_cons,List.length_nil];omega
  ·have:=uf 1 (2*t.lit.size) (by omega);omega
 ·rw[ab (by omega),List.length_append];have a1:=uf 1 (2*t.len+1).toNat (by omega);have a2:=uf 1 t.far.toNat (by omega);omega
theorem Mu(hd:d<=256):∀(l:List Tk.T) (s:List UInt8) (p:Bool),d<=s.length->s.length<=d+512->(VK d s p l).1=0 →
 (∀t∈l,nP t)/\(dj l).length+2*s.length<=2*(d+512)/\l.length+s.length<=d+512:=by
 intro l
 induction l with
 |nil=>intro s p h1 h2 _;refine⟨λt h=>by simp at h,?_,?_⟩<;>simp[dj]<;>omega
 |cons t l ih =>
  intro s p h1 h2 h;obtain⟨he,h⟩:=Ms h;obtain⟨m1,m2,m3,m4,m5⟩:=X8 he
  have ok:nP t:=by
   by_cases h0:t.lit.size=0
   ·have:=m3 h0;exact .inr ⟨h0,by omega,by omega,by omega,by omega⟩
   ·have:=m4 h0;exact .inl ⟨h0,this.1,this.2,by omega⟩
  have ht:=Mt ok;obtain⟨i1,i2,i3⟩:=ih (Wh s t) _ (by omega) (by omega) h;have hpos:1<=t.lit.size+t.len.toNat:=by rcases ok with h|h<;>omega
  refine⟨?_,?_,?_⟩
  ·intro u hu;rcases List.mem_cons.1 hu with rfl|hu
   ·exact ok
   ·exact i1 u hu
  ·simp only[dj,List.length_append];omega
  ·simp only[List.length_cons];omega
theorem sh(h:Zw dict l=0):(∀t∈l,nP t)/\(dj l).length<=1024/\l.length<=512:=by
 obtain⟨hd,h1⟩:=yL h;have hl:dict.data.toList.length=dict.size:=by simp
 have:=Mu hd l dict.data.toList false (by omega) (by omega) h1;exact⟨this.1,by omega,by omega⟩
theorem va(h:Zw dict l=0):Small l:=by
 obtain⟨h1,_,h3⟩:=sh h;refine⟨by omega,λt ht=>?_⟩;rcases h1 t ht with h|h<;>omega
theorem yO(h:Small l):bu l:=⟨by have:=h.1;omega,λt ht=>by have:=h.2 t ht;omega⟩
theorem Mv(h:nP t)(r:List UInt8):Wu ⟨(tb t++r).toArray⟩=some (t,(tb t).length):=by
 unfold Wu tb;rcases h with⟨h0,h1,h2,h3⟩|⟨h0,h1,h2,h3,h4⟩
 ·rw[ax h0];have hl:t.lit.data.toList.length=t.lit.size:=by simp
  have hf:Zt (⟨(VB (2*t.lit.size)++t.lit.data.toList++r).toArray⟩:ByteArray).data.toList=some (2*t.lit.size,(VB (2*t.lit.size)).length):=by
   show Zt (VB (2*t.lit.size)++t.lit.data.toList++r).toArray.toList=_;rw[List.toList_toArray,List.append_assoc];exact Ym _ _ (by omega)
  rw[hf];simp only;rw[ab (by omega),ab]
  ·congr 2
   ·obtain⟨x,f,n⟩:=t;simp only at h1 h2;subst h1 h2
    congr 1
    apply ZN;rw[jI];show(((VB (2*x.size)++x.data.toList++r).toArray.toList).drop _).take _=_;rw[List.toList_toArray,List.append_assoc,List.drop_left,show(VB (2*x.size)).length+2*x.size/2-(VB (2*x.size)).length=x.data.toList.length by simp];exact List.take_left ..
   ·rw[List.length_append,hl];omega
  ·show ¬(VB (2*t.lit.size)++t.lit.data.toList++r).toArray.size-_<_;simp only[List.size_toArray,List.length_append,hl];omega
 ·rw[ab (by omega)]
  have hf:Zt (⟨(VB (2*t.len+1).toNat++VB t.far.toNat++r).toArray⟩:ByteArray).data.toList=some ((2*t.len+1).toNat,(VB (2*t.len+1).toNat).length):=by
   show Zt (VB (2*t.len+1).toNat++VB t.far.toNat++r).toArray.toList=_;rw[List.toList_toArray,List.append_assoc];exact Ym _ _ (by omega)
  rw[hf];simp only;rw[ax (by omega),WG]
  have hg:Zt ((⟨(VB (2*t.len+1).toNat++VB t.far.toNat++r).toArray⟩:ByteArray).data.toList.drop (VB (2*t.len+1).toNat).length)=some (t.far.toNat,(VB t.far.toNat).length):=by
   show Zt ((VB (2*t.len+1).toNat++VB t.far.toNat++r).toArray.toList.drop _)=_;rw[List.toList_toArray,List.append_assoc,List.drop_left];exact Ym _ _ (by omega)
  rw[hg];simp only
  congr 2
  ·obtain⟨x,f,n⟩:=t;simp only at h0 h1 h2 h3 h4
   congr 1
   ·apply ZN;have:x.data.toList.length=0:=h0;rw[List.eq_nil_of_length_eq_zero this]
   ·simp only;omega
   ·simp only;omega
  ·rw[List.length_append]
theorem Mw:∀(l:List Tk.T),(∀t∈l,nP t)->Tk.D ⟨(dj l).toArray⟩=some l:=by
 intro l
 induction l with
 |nil=>intro _;exact uF rfl
 |cons t l ih =>
  intro h;rw[show dj (t :: l)=tb t++dj l from rfl,Yr (Mv (h t (by simp)) (dj l))]
  have e:(⟨(tb t++dj l).toArray⟩:ByteArray).extract (tb t).length (⟨(tb t++dj l).toArray⟩:ByteArray).size=⟨(dj l).toArray⟩:=by
   apply ZN;rw[WG];show(tb t++dj l).toArray.toList.drop _=(dj l).toArray.toList;rw[List.toList_toArray,List.toList_toArray,List.drop_left]
  rw[e,ih (λu hu=>h u (by simp[hu]))];rfl
theorem My(h:Wu s=some (t,k))(ho:nP t):tb t=s.data.toList.take k:=by
 unfold Wu at h;have hl:s.data.toList.length=s.size:=by simp
 cases hf:Zt s.data.toList with
 |none=>rw[hf]at h;simp at h
 |some x =>
  obtain⟨n,j⟩:=x;rw[hf]at h;simp only at h;obtain⟨f1,f2,f3,f4,f5⟩:=WM hf;by_cases hp:n%2=1
  ·rw[ax hp]at h
   cases hg:Zt (s.extract j s.size).data.toList with
   |none=>rw[hg]at h;simp at h
   |some y =>
    obtain⟨f,i⟩:=y;rw[hg]at h;simp only[Option.some.injEq,Prod.mk.injEq]at h;obtain⟨rfl,rfl⟩:=h;obtain⟨g1,g2,g3,g4,g5⟩:=WM hg;rw[WG]at g2;unfold tb;rw[ab (λh=>h rfl)];simp only;rw[show(2*((n/2:Nat):Int)+1).toNat=n by omega,show((f:Nat):Int).toNat=f by omega,f2,g2,List.take_add]
  ·rw[ab hp]at h;by_cases hb:s.size-j<n/2
   ·rw[ax hb]at h;simp at h
   ·rw[ab hb]at h;simp only[Option.some.injEq,Prod.mk.injEq]at h;obtain⟨rfl,rfl⟩:=h;have hz:(s.extract j (j+n/2)).size=n/2:=by simp;omega
    unfold tb;rcases ho with ho|ho
    ·rw[ax ho.1];simp only;rw[hz,show 2*(n/2)=n by omega,f2,jI,show j+n/2-j=n/2 by omega,List.take_add]
    ·exact absurd ho.2.1 (by simp)
theorem Mz:∀(n:Nat) (s:ByteArray) (l:List Tk.T),s.size<=n->Tk.D s=some l->(∀t∈l,nP t)->dj l=s.data.toList:=by
 intro n
 induction n with
 |zero =>
  intro s l h1 h2 _;rw[uF (by omega)]at h2
  cases h2
  have:s.data.toList.length=0:=show s.size=0 by omega
  rw[List.eq_nil_of_length_eq_zero this];rfl
 |succ n ih =>
  intro s l h1 h2 h3;by_cases h0:s.size=0
  ·exact ih s l (by omega) h2 h3
  ·cases ho:Wu s with
   |none=>rw[Ys h0 ho]at h2;cases h2
   |some x =>
    obtain⟨t,k⟩:=x;have hp:=YG ho;rw[Yr ho]at h2
    cases hD:Tk.D (s.extract k s.size) with
    |none=>rw[hD]at h2;cases h2
    |some m =>
     rw[hD]at h2;simp only[Option.map_some,Option.some.injEq]at h2;subst h2;have:=ih (s.extract k s.size) m (by rw[XT];omega) hD (λu hu=>h3 u (by simp[hu]));rw[WG]at this;rw[show dj (t :: m)=tb t++dj m from rfl,this,My ho (h3 t (by simp)),List.take_append_drop]
theorem Ep(hd:dict.size<=256)(h:ZM dict s=some l):Tk.D s=some l/\Zw dict l=0:=by
 unfold ZM at h
 cases hD:Tk.D s with
 |none=>rw[hD]at h;simp at h
 |some m =>
  rw[hD]at h;simp only at h;by_cases hr:(VK dict.size dict.data.toList false m).1=0
  ·rw[ax hr]at h
   cases h
   refine⟨rfl,?_⟩;unfold Zw;rw[ab (by omega),hr]
  ·rw[ab hr]at h;cases h
theorem MA(hD:Tk.D s=some l)(hc:Zw dict l=0):ZM dict s=some l:=by
 unfold ZM;rw[hD];simp only;rw[ax (yL hc).2]
theorem ew(hd:dict.size<=256)(h:ZM dict s=some l):(⟨(dj l).toArray⟩:ByteArray)=s/\Zw dict l=0:=by
 obtain⟨h1,h2⟩:=Ep hd h;refine⟨?_,h2⟩;rw[Mz s.size s l (Nat.le_refl _) h1 (sh h2).1,aav]
theorem yP(hd:dict.size<=256)(h:1024<s.size):ZM dict s=none:=by
 cases hr:ZM dict s with
 |none=>rfl
 |some l =>
  obtain⟨h1,h2⟩:=ew hd hr;have:=(sh h2).2.1;rw[<-h1]at h;have e:(⟨(dj l).toArray⟩:ByteArray).size=(dj l).length:=rfl;omega
theorem Er(hd:dict.size<=256):kK dict s=ZM dict s:=by
 unfold kK ZM
 cases hD:Tk.D s with
 |none=>rfl
 |some l =>
  simp only;by_cases hr:(VK dict.size dict.data.toList false l).1=0
  ·have hc:Zw dict l=0:=by unfold Zw;rw[ab (by omega),hr]
   rw[ax hr,ax ⟨(sh hc).2.2,hc⟩]
  ·have hc:¬Zw dict l=0:=by unfold Zw;rw[ab (by omega)];exact hr
   rw[ab hr,ab (λh=>hc h.2)]
theorem Es(hc:Zw dict l=0):ZM dict ⟨(dj l).toArray⟩=some l:=MA (Mw l (sh hc).1) hc
theorem MB(l:List UInt8)(a far:Nat)(h1:1<=far)(h2:far<=a):∀n,(∀j,j<n->l[a-far+j]?=l[a+j]?)->a+n<=l.length->Xn far n (l.take a)=l.take (a+n):=by
 intro n
 induction n with
 |zero=>intro _ _;rfl
 |succ n ih =>
  intro h hl;rw[YX,ih (λj hj=>h j (by omega)) (by omega)];have hlen:(l.take (a+n)).length=a+n:=by rw[List.length_take];omega
  rw[hlen,List.getD_eq_getElem?_getD,List.getElem?_take,ax (by omega),show a+n-far=a-far+n by omega,h n (by omega),List.getElem?_eq_getElem (show a+n<l.length by omega),Option.getD_some,show a+(n+1)=(a+n)+1 by omega,List.take_add_one,List.getElem?_eq_getElem (show a+n<l.length by omega)];rfl
theorem MC{s:List UInt8}(h1:3<=n)(h2:n<=64)(h3:1<=f)(h4:f<=s.length)(h5:s.length+n<=d+512):VQ d s p ⟨⟨#[]⟩,(f:Nat),(n:Nat)⟩=0:=by
 unfold VQ;rw[ab (λh=>h rfl),ab (by simp only;omega),ab (by simp only;omega)]
theorem MD{s:List UInt8} :Wh s ⟨⟨#[]⟩,(f:Nat),(n:Nat)⟩=Xn f n s:=by
 unfold Wh;rw[ab (λh=>h rfl)];rfl
theorem ME{s:List UInt8}(h0:x.size≠0)(h5:s.length+x.size<=d+512):VQ d s false ⟨x,0,0⟩=0:=by
 unfold VQ;rw[ax h0,ab (by simp),ab (by simp only;omega)]
theorem MF{s:List UInt8}(h0:x.size≠0):Wh s ⟨x,0,0⟩=s++x.data.toList:=by
 unfold Wh;rw[ax h0]
theorem Et(s:ByteArray)(d f a:Nat)(m:List Tk.T)(h1:f<=a)(h2:a<=s.size)(h3:s.size<=d+512):∃p,VK d (s.data.toList.take f) false (Wi s f a++m)=VK d (s.data.toList.take a) p m:=by
 have hl:s.data.toList.length=s.size:=by simp
 unfold Wi;by_cases h:f<a
 ·rw[ax h];have hz:(s.extract f a).size=a-f:=by simp;omega
  have hlen:(s.data.toList.take f).length=f:=by rw[List.length_take];omega
  refine⟨decide ((s.extract f a).size≠0),?_⟩;rw[List.cons_append,List.nil_append,Xm (ME (by omega) (by rw[hlen,hz];omega)),MF (by omega),jI,<-List.take_add,show f+(a-f)=a by omega]
 ·rw[ab h];refine⟨false,?_⟩;rw[show f=a by omega];rfl
theorem MG(s:ByteArray)(d:Nat)(h3:s.size<=d+512):∀(n a f:Nat),s.size-a<=n->f<=a->a<=s.size->VK d (s.data.toList.take f) false (Tk.P s a f)=(0,s.data.toList):=by
 have hl:s.data.toList.length=s.size:=by simp
 intro n
 induction n with
 |zero =>
  intro a f h1 h2 h4;rw[xC (by omega)];obtain⟨p,hp⟩:=Et s d f a [] h2 h4 h3;rw[List.append_nil]at hp;rw[hp,VK,List.take_of_length_le (by omega)]
 |succ n ih =>
  intro a f h1 h2 h4;by_cases ha:a<s.size
  ·by_cases hb:(YJ s.data.toList a).2<3
   ·rw[YZ ha hb];exact ih (a+1) f (by omega) (by omega) (by omega)
   ·rw[xE ha hb];obtain⟨b1,b2⟩:=Y0 s.data.toList a;generalize YJ s.data.toList a=b at*;obtain⟨far,len⟩:=b;simp only at hb b1 b2 |-
    rcases b2 with b2|⟨b2,b3,b4,b5⟩
    ·simp only[Prod.mk.injEq]at b2;omega
    ·unfold Wz at b1;have hlen:(s.data.toList.take a).length=a:=by rw[List.length_take];omega
     obtain⟨p,hp⟩:=Et s d f a (⟨⟨#[]⟩,(far:Nat),(len:Nat)⟩ :: Tk.P s (a+len) (a+len)) h2 h4 h3;rw[hp,Xm (MC (by omega) (by omega) b2 (by omega) (by omega)),MD,MB s.data.toList a far b2 b3 len (λj hj=>CO _ _ _ _ j (by rw[<-b5];exact hj)) (by omega)];exact ih (a+len) (a+len) (by omega) (nl _) (by omega)
  ·exact ih a f (by omega) h2 h4
theorem vc(dict text:ByteArray)(hd:dict.size<=256)(ht:text.size<=512):Zw dict (Tk.P (dict++text) dict.size dict.size)=0/\gZ dict (Tk.P (dict++text) dict.size dict.size)=text:=by
 have h:=MG (dict++text) dict.size (by rw[Xc];omega) _ dict.size dict.size (nl _) (nl _) (by rw[Xc];omega);have hl:dict.data.toList.length=dict.size:=by simp
 rw[Xo,<-hl,List.take_left]at h;rw[hl]at h
 have hc:Zw dict (Tk.P (dict++text) dict.size dict.size)=0:=by
  unfold Zw;rw[ab (by omega),h]
 refine⟨hc,?_⟩;unfold gZ;rw[ab (by rw[hc];simp),h];simp only;rw[<-hl,List.drop_left,aav]
end Go.Proofs.YtbjbjbpgmojcbacGreatDoor
