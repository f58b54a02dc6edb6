/- A part of the proof: what it leans on. -/
import Derived.Deep.LoopGhost
import Derived.Laws.BitsLemmas
import Derived.Maps.GroupsBeside
import Derived.Test.YtbjbjbpgmojcbacGreatDoorDk02
set_option maxRecDepth 4000
set_option maxHeartbeats 4000000
namespace Go.Proofs.YtbjbjbpgmojcbacGreatDoor
open Ar Bk Cd Dk Im Tk Tr Vy
open Tryz
variable{v x:Int}{g g2 g4 g5 g6 k n p q:Nat}{L W f:Nat->Int}{w w' wr:World}
open Go.RowKit
theorem nD(h0:-9223372036854775808<=x)(h1:x<=9223372036854775807):wrap64 x=x:=by
 unfold wrap64;omega
theorem Cq{s:Int}(hs:0<=s/\s<=262144)(h0:0<x)(h1:x<=15):wrap64 (s+wrap64 (2^(15-x).toNat))=s+YF x:=by
 have h:=Cd.me (x:=x) (by omega) h1;rw[<-pK h0,nD (x:=YF x) (by omega) (by omega),nD (by omega) (by omega)]
theorem pO(f:Nat->Int)(w:World) :
 CB 213 #[.agg (arr f)] w (.int .i64 (Wj f)):=by
 have hat:=lF f;have hin:=Zh f;have hix:=cY f;have hbel:∀o,ae w (w.alloc o):=λo=>(bR _ _).alloc (nl _) o
 generalize hE:Wj f=E at*;have HE:=Za hE;clear hE;generalize arr f=c at*;go_enter func213,ntmps213
 go_wp2_with (refine wpList_load_row rfl 142 _ rfl w.heap.size rfl 142 c (0,0) _ (heap_alloc_last w _) aF rfl hin ?_)
 go_loop [3,7] (λs i=>∃k:Nat,k<=16/\i=.int .i64 k/\s=.int .i64 (Wp f k)/\Hid (Wk f 15 k)) (λ_ i=>16-(intOf i).toNat)
 case atStart=>exact⟨0,by omega,rfl,rfl,λi h=>by omega⟩
 case round =>
  obtain⟨k,hk,rfl,rfl,hR⟩:=hrel;have HS:Hid (0<=Wp f k/\Wp f k<=262144):=by have:=aal k hR.out;show _/\_;omega
  by_cases hlt:k<16
  ·have hi:=hix k hlt;have HX:Hid (Wp f (k+1)=Wp f k+YF (f k)):=rfl;have HB:=Za λ(h:f k<0\/15<f k)=>HE.out.symm.trans (BZ hlt h)
   have HN:=Za λ(h1:0<=f k) (h2:f k<=15)=>hR.out.succ h1 h2
   clear hat hix hin;generalize f k=x at*;generalize Wp f k=s at*;have hk1:=al (by omega:(k:Int)<16);have hk2:=al (by omega:k<16);by_cases h1:x<0
   ·have d1:=al (by omega:x<0);have kD:=HB.out (.inl h1);subst kD;go_wp2_with fail
    go_ret
    exact⟨rfl,hbel _⟩
   ·have d1:=dF (by omega:¬(x<0));by_cases h2:15<x
    ·have d2:=al (by omega:15<x);have kD:=HB.out (.inr h2);subst kD;go_wp2_with fail
     go_ret
     exact⟨rfl,hbel _⟩
    ·have d2:=dF (by omega:¬(15<x));by_cases h3:0<x
     ·have d3:=al (by omega:0<x);go_wp2_with fail
      refine⟨⟨k+1,by omega,by go_num,?_,HN.out (by omega) (by omega)⟩,by simp[intOf];omega⟩;rw[HX.out,Cq HS.out h3 (by omega)]
     ·have d3:=dF (by omega:¬(0<x));go_wp2_with fail
      refine⟨⟨k+1,by omega,by go_num,?_,HN.out (by omega) (by omega)⟩,by simp[intOf];omega⟩;rw[HX.out,aam (by omega)];simp
  ·obtain rfl:k=16:=by omega
   have HF:=Za λ(h:Wp f 16=0\/32768<Wp f 16)=>HE.out.symm.trans (aan hR.out h)
   have HO:=Za λ(h:¬(Wp f 16=0\/32768<Wp f 16))=>HE.out.symm.trans (aao hR.out h)
   clear hat hix hin;generalize Wp f 16=s at*;by_cases h1:s=0
   ·have:=HF.out (.inl h1);subst h1 this;go_wp2_with fail
    go_ret
    exact⟨rfl,hbel _⟩
   ·have d1:(s==0)=false:=by simpa using h1
    by_cases h2:32768<s
    ·have d2:=al (by omega:32768<s);have:=HF.out (.inr h2);subst this;go_wp2_with fail
     go_ret
     exact⟨rfl,hbel _⟩
    ·have d2:=dF (by omega:¬(32768<s));have:=HO.out (by omega);subst this;go_wp2_with fail
     go_ret
     exact⟨rfl,hbel _⟩
theorem rh(f:Nat->Int)(w:World) :
 CB 162 #[.agg (arr f)] w (.int .i64 (Wj f)):=by
 have hat:=lF f;have hbel:∀o,ae w (w.alloc o):=λo=>(bR _ _).alloc (nl _) o
 generalize hE:Wj f=E at*;have HE:=Za hE;clear hE;generalize arr f=c at*;go_enter func162,ntmps162
 go_wp2_with fail
 go_loop [3,4,5] (λs u i=>∃k:Nat,k<=16/\i=.int .i64 k/\s=.int .i64 (Wp f k)/\u=.bool (Yo f k)/\Hid (Wk f 15 k)) (λ_ _ i=>16-(intOf i).toNat)
 case atStart=>exact⟨0,by omega,rfl,rfl,rfl,λi h=>by omega⟩
 case round =>
  obtain⟨k,hk,rfl,rfl,rfl,hR⟩:=hrel;have HS:Hid (0<=Wp f k/\Wp f k<=262144):=by have:=aal k hR.out;show _/\_;omega
  by_cases hlt:k<16
  ·have hi:=hat k hlt;have HX:Hid (Wp f (k+1)=Wp f k+YF (f k)):=rfl;have HU:Hid (Yo f (k+1)=(Yo f k||decide (0<f k))):=rfl;have HB:=Za λ(h:f k<0\/15<f k)=>HE.out.symm.trans (BZ hlt h)
   have HN:=Za λ(h1:0<=f k) (h2:f k<=15)=>hR.out.succ h1 h2
   clear hat;generalize f k=x at*;generalize Wp f k=s at*;generalize Yo f k=u at*;have hk1:=al (by omega:(k:Int)<16);have hk2:=al (by omega:k<16);by_cases h1:0<=x/\x<=15
   ·obtain⟨h1,h2⟩:=h1;by_cases h3:0<x
    ·have d3:=al (by omega:0<x);go_wp2_with fail
     refine mo (lG x 0 15 _ h1 h2) ?_;rintro w9 rfl;go_wp2_with fail
     refine⟨⟨k+1,by omega,by go_num,?_,?_,HN.out (by omega) (by omega)⟩,by simp[intOf];omega⟩
     ·rw[HX.out,Cq HS.out h3 (by omega)]
     ·rw[HU.out,d3,Bool.or_true]
    ·have d3:=dF (by omega:¬(0<x));go_wp2_with fail
     refine mo (lG x 0 15 _ h1 h2) ?_;rintro w9 rfl;go_wp2_with fail
     refine⟨⟨k+1,by omega,by go_num,?_,?_,HN.out (by omega) (by omega)⟩,by simp[intOf];omega⟩
     ·rw[HX.out,aam (by omega)];simp
     ·rw[HU.out,d3,Bool.or_false]
   ·have kD:=HB.out (by omega);subst kD;go_wp2_with fail
    refine mo (re x 0 15 _ h1) ?_;rintro w9 rfl;go_wp2_with fail
    go_ret
    exact⟨rfl,hbel _⟩
  ·obtain rfl:k=16:=by omega
   have HF:=Za λ(h:Wp f 16=0\/32768<Wp f 16)=>HE.out.symm.trans (aan hR.out h)
   have HO:=Za λ(h:¬(Wp f 16=0\/32768<Wp f 16))=>HE.out.symm.trans (aao hR.out h)
   have HV:=Za (I8 16 hR.out);clear hat;generalize Wp f 16=s at*;generalize Yo f 16=u at*
   cases u with
   |false =>
    have:=HF.out (.inl (HV.out.2 rfl));subst this;go_wp2_with fail
    go_ret
    exact⟨rfl,hbel _⟩
   |true =>
    by_cases h2:32768<s
    ·have d2:=al (by omega:32768<s);have:=HF.out (.inr h2);subst this;go_wp2_with fail
     go_ret
     exact⟨rfl,hbel _⟩
    ·have d2:=dF (by omega:¬(32768<s));have:=HO.out (λh=>h.elim (λh=>by have:=HV.out.1 h;cases this) (λh=>h2 h));subst this;go_wp2_with fail
     go_ret
     exact⟨rfl,hbel _⟩
theorem Cr(f:Nat->Int)(w:World) :
 CB 211 #[.agg (arr f)] w (.bool (decide (Wk f 2048 16))):=by
 have hin:=Zh f;have hix:=cY f;have hbel:∀o,ae w (w.alloc o):=λo=>(bR _ _).alloc (nl _) o
 generalize hE:decide (Wk f 2048 16)=E at*;have HE:=Za hE;clear hE;generalize arr f=c at*;go_enter func211,ntmps211
 go_wp2_with (refine wpList_load_row rfl 142 _ rfl w.heap.size rfl 142 c (0,0) _ (heap_alloc_last w _) aF rfl hin ?_)
 go_loop [6] (λi=>∃k:Nat,k<=16/\i=.int .i64 k/\Hid (Wk f 2048 k)) (λi=>16-(intOf i).toNat)
 case atStart=>exact⟨0,by omega,rfl,λi h=>by omega⟩
 case round =>
  obtain⟨k,hk,rfl,hR⟩:=hrel;by_cases hlt:k<16
  ·have hi:=hix k hlt;have HB:=Za λ(h:f k<0\/2048<f k)=>HE.out.symm.trans (dF (wZ hlt h))
   have HN:=Za λ(h1:0<=f k) (h2:f k<=2048)=>hR.out.succ h1 h2
   clear hix hin;generalize f k=x at*;have hk1:=al (by omega:(k:Int)<16);have hk2:=al (by omega:k<16);by_cases h1:x<0
   ·have d1:=al (by omega:x<0);have kD:=HB.out (.inl h1);subst kD;go_wp2_with fail
    go_ret
    exact⟨rfl,hbel _⟩
   ·have d1:=dF (by omega:¬(x<0));by_cases h2:2048<x
    ·have d2:=al (by omega:2048<x);have kD:=HB.out (.inr h2);subst kD;go_wp2_with fail
     go_ret
     exact⟨rfl,hbel _⟩
    ·have d2:=dF (by omega:¬(2048<x));go_wp2_with fail
     exact⟨⟨k+1,by omega,by go_num,HN.out (by omega) (by omega)⟩,by simp[intOf];omega⟩
  ·obtain rfl:k=16:=by omega
   have:=HE.out.symm.trans (al hR.out);subst this;clear hix hin;go_wp2_with fail
   go_ret
   exact⟨rfl,hbel _⟩
theorem Cs(f:Nat->Int)(w:World) :
 CB 232 #[.agg (arr f)] w (.bool (decide (Wk f 2048 16))):=by
 have hat:=lF f;have hbel:∀o,ae w (w.alloc o):=λo=>(bR _ _).alloc (nl _) o
 generalize hE:decide (Wk f 2048 16)=E at*;have HE:=Za hE;clear hE;generalize arr f=c at*;go_enter func232,ntmps232
 go_wp2_with fail
 go_loop [3] (λi=>∃k:Nat,k<=16/\i=.int .i64 k/\Hid (Wk f 2048 k)) (λi=>16-(intOf i).toNat)
 case atStart=>exact⟨0,by omega,rfl,λi h=>by omega⟩
 case round =>
  obtain⟨k,hk,rfl,hR⟩:=hrel;by_cases hlt:k<16
  ·have hi:=hat k hlt;have HB:=Za λ(h:f k<0\/2048<f k)=>HE.out.symm.trans (dF (wZ hlt h))
   have HN:=Za λ(h1:0<=f k) (h2:f k<=2048)=>hR.out.succ h1 h2
   clear hat;generalize f k=x at*;have hk1:=al (by omega:(k:Int)<16);have hk2:=al (by omega:k<16);by_cases h1:0<=x/\x<=2048
   ·obtain⟨h1,h2⟩:=h1;go_wp2_with fail
    refine mo (lG x 0 2048 _ h1 h2) ?_;rintro w9 rfl;go_wp2_with fail
    exact⟨⟨k+1,by omega,by go_num,HN.out (by omega) (by omega)⟩,by simp[intOf];omega⟩
   ·have kD:=HB.out (by omega);subst kD;go_wp2_with fail
    refine mo (re x 0 2048 _ h1) ?_;rintro w9 rfl;go_wp2_with fail
    go_ret
    exact⟨rfl,hbel _⟩
  ·obtain rfl:k=16:=by omega
   have:=HE.out.symm.trans (al hR.out);subst this;clear hat;go_wp2_with fail
   go_ret
   exact⟨rfl,hbel _⟩
theorem Jp{c:Nat->Int}(h:Wj f=0)(h1:Wk c 2048 16)(h2:aap f c 16=none):aaq f c=(0,5):=by rw[aaq,ab (by simpa using h),ab (by simpa using h1),h2]
def ai(w:World)(g:Nat)(f:Nat->Int):Prop:=g<w.heap.size/\w.heap[g]?=some (.cells (arr f) 142 (0,0))
theorem ai.below(h:ai w g f)(hb:ae w w'):ai w' g f:=⟨Nat.lt_of_lt_of_le h.1 hb.size,by rw[hb.block g h.1];exact h.2⟩
theorem ai.cell(h:ai w g f)(k:Nat)(hk:k<16):w.cell? ⟨g,k,none⟩=some (.int .i64 (f k)):=by rw[cell_of_row w g k _ _ _ h.2,lF f k hk]
theorem ai.new(w:World)(f:Nat->Int):ai (w.alloc (.cells (arr f) 142)) w.heap.size f:=⟨by simp,heap_alloc_last w _⟩
theorem ai.alloc(h:ai w g f)(o:Obj):ai (w.alloc o) g f:=h.below ((Below.refl _ _).alloc (Nat.le_refl _) o)
theorem ai.two(w:World)(f c:Nat->Int):ai ((w.alloc (.cells (arr f) 142)).alloc (.cells (arr c) 142)) w.heap.size f/\ai ((w.alloc (.cells (arr f) 142)).alloc (.cells (arr c) 142)) (w.heap.size+1) c :=
 ⟨(ai.new w f).alloc _,by have:=ai.new (w.alloc (.cells (arr f) 142)) c;simpa using this⟩
theorem uv(w:World)(o p:Obj):ae w ((w.alloc o).alloc p):=((Below.refl _ _).alloc (Nat.le_refl _) o).alloc (by simp) p
namespace Cd
def jF(W:Nat->Int)(p:Int×Int)(k:Nat):Int×Int :=
 if W k=0 then p else if p.1=-1\/W k<W p.1.toNat then((k:Int),p.1) else if p.2=-1\/W k<W p.2.toNat then(p.1,(k:Int)) else p
def WJ(W:Nat->Int):Nat->Int×Int
 |0=>(-1,-1)
 |k+1=>jF W (WJ W k) k
def aar(W:Nat->Int)(k:Nat)(a:Int):Prop:=a=-1\/∃p:Nat,a=p/\p<k/\W p≠0
theorem aar.mono{j:Nat}{a:Int}(h:aar W k a)(hk:k<=j):aar W j a:=by
 rcases h with h|⟨p,h1,h2,h3⟩
 ·exact .inl h
 ·exact .inr ⟨p,h1,by omega,h3⟩
theorem aas(W:Nat->Int):∀k,aar W k (WJ W k).1/\aar W k (WJ W k).2:=by
 intro k
 induction k with
 |zero=>exact⟨.inl rfl,.inl rfl⟩
 |succ k ih =>
  have i1:=ih.1.mono (Nat.le_succ k);have i2:=ih.2.mono (Nat.le_succ k);rw[WJ,jF];by_cases h0:W k=0
  ·rw[ax h0];exact⟨i1,i2⟩
  ·have hk:aar W (k+1) (k:Int):=.inr ⟨k,rfl,by omega,h0⟩;rw[ab h0];split
   ·exact⟨hk,i1⟩
   ·split
    ·exact⟨i1,hk⟩
    ·exact⟨i1,i2⟩
end Cd
theorem Ct(W:Nat->Int)(w:World) :
 CB 212 #[.agg (arr W)] w (.tuple #[.int .i64 (WJ W 16).1,.int .i64 (WJ W 16).2]):=by
 have hat:=lF W;have hin:=Zh W;have hix:=cY W;have hbel:∀o,ae w (w.alloc o):=λo=>(bR _ _).alloc (nl _) o
 generalize hE:WJ W 16=E at*;have HE:=Za hE;clear hE;go_enter func212,ntmps212
 go_wp2_with (refine wpList_load_row rfl 142 _ rfl w.heap.size rfl 142 (arr W) (0,0) _ (heap_alloc_last w _) aF rfl hin ?_)
 go_loop [4,5,9] (λa b i=>∃(k:Nat) (A B:Int),k<=16/\i=.int .i64 k/\a=.int .i64 A/\b=.int .i64 B/\Hid (WJ W k=(A,B))) (λ_ _ i=>16-(intOf i).toNat)
 case atStart=>exact⟨0,-1,-1,by omega,rfl,rfl,rfl,rfl⟩
 case round =>
  obtain⟨k,A,B,hk,rfl,rfl,rfl,hL⟩:=hrel;by_cases hlt:k<16
  ·have hi:=hix k hlt;have hk1:=al (by omega:(k:Int)<16);have hk2:=al (by omega:k<16);have hk0:(0:Int)<=(k:Int):=by omega
   have HN:Hid (WJ W (k+1)=jF W (A,B) k):=by show _=_;rw[WJ,hL.out]
   have SA:Hid (aar W k A/\aar W k B):=by have:=aas W k;rw[hL.out]at this;exact this
   by_cases h0:W k=0
   ·have HN':Hid (WJ W (k+1)=(A,B)):=by show _=_;rw[HN.out,jF,ax h0]
    rw[h0]at hi;clear hix h0 hat hin;go_wp2_with fail
    exact⟨⟨k+1,A,B,by omega,by go_num,rfl,rfl,HN'⟩,by simp[intOf];omega⟩
   ·have d0:(W k==0)=false:=by simpa using h0
    by_cases hA:A=-1
    ·have HN':Hid (WJ W (k+1)=((k:Int),-1)):=by show _=_;rw[HN.out,jF,ab h0,ax (.inl hA),hA]
     subst hA;generalize W k=y at*;clear hix h0 hat hin;go_wp2_with fail
     exact⟨⟨k+1,_,_,by omega,by go_num,rfl,rfl,HN'⟩,by simp[intOf];omega⟩
    ·obtain⟨p,rfl,hp,_⟩:=SA.out.1.resolve_left hA;have dA:((p:Int) == -1)=false:=by simp
     have hcp:=hat p (by omega);have hp1:(p:Int)<16:=by omega
     by_cases hx:W k<W p
     ·have HN':Hid (WJ W (k+1)=((k:Int),(p:Int))):=by show _=_;rw[HN.out,jF,ab h0,ax (.inr hx)]
      have dx:decide (W k<W p)=true:=by simpa using hx
      generalize W k=y at*;generalize W p=z at*;clear hix h0 hat hin hA hx;go_wp2_with fail
      exact⟨⟨k+1,_,_,by omega,by go_num,rfl,rfl,HN'⟩,by simp[intOf];omega⟩
     ·have dx:decide (W k<W p)=false:=by simpa using hx
      have hnot:¬((p:Int)=-1\/W k<W (p:Int).toNat):=λh=>h.elim hA hx
      by_cases hB:B=-1
      ·have HN':Hid (WJ W (k+1)=((p:Int),(k:Int))):=by show _=_;rw[HN.out,jF,ab h0,ab hnot,ax (.inl hB)]
       subst hB;generalize W k=y at*;generalize W p=z at*;clear hix h0 hat hin hA hx hnot;go_wp2_with fail
       exact⟨⟨k+1,_,_,by omega,by go_num,rfl,rfl,HN'⟩,by simp[intOf];omega⟩
      ·obtain⟨q,rfl,hq,_⟩:=SA.out.2.resolve_left hB;have dB:((q:Int) == -1)=false:=by simp
       have hcq:=hat q (by omega);have hq1:(q:Int)<16:=by omega
       by_cases hy:W k<W q
       ·have HN':Hid (WJ W (k+1)=((p:Int),(k:Int))):=by show _=_;rw[HN.out,jF,ab h0,ab hnot,ax (.inr hy)]
        have dy:decide (W k<W q)=true:=by simpa using hy
        generalize W k=y at*;generalize W p=z at*;generalize W q=z2 at*;clear hix h0 hat hin hA hx hB hy hnot;go_wp2_with fail
        exact⟨⟨k+1,_,_,by omega,by go_num,rfl,rfl,HN'⟩,by simp[intOf];omega⟩
       ·have HN':Hid (WJ W (k+1)=((p:Int),(q:Int))):=by show _=_;rw[HN.out,jF,ab h0,ab hnot,ab (λh=>h.elim hB hy)]
        have dy:decide (W k<W q)=false:=by simpa using hy
        generalize W k=y at*;generalize W p=z at*;generalize W q=z2 at*;clear hix h0 hat hin hA hx hB hy hnot;go_wp2_with fail
        exact⟨⟨k+1,_,_,by omega,by go_num,rfl,rfl,HN'⟩,by simp[intOf];omega⟩
  ·obtain rfl:k=16:=by omega
   have h9:=HE.out.symm.trans hL.out;subst h9;clear hix hat hin;go_wp2_with fail
   go_ret2
   exact⟨rfl,hbel _⟩
def upd(f:Nat->Int)(k:Nat)(v:Int):Nat->Int:=λi=>if i=k then v else f i
theorem ZL(f:Nat->Int)(k:Nat)(v:Int):upd f k v k=v:=by simp[upd]
theorem Zl(f:Nat->Int){k i:Nat}(v:Int)(h:i≠k):upd f k v i=f i:=by simp[upd,h]
theorem Jq{g:Nat->Int}(h:∀i,i<16->f i=g i):arr f=arr g:=by
 unfold arr
 congr 1
 apply List.map_congr_left;intro i hi;rw[h i (List.mem_range.1 hi)]
theorem Jr(f:Nat->Int)(k:Nat)(v:Int):(arr f).setIfInBounds k (.int .i64 v)=arr (upd f k v):=by
 apply Array.ext_getElem?;intro i;rw[Array.getElem?_setIfInBounds,Zo];by_cases hi:i<16
 ·rw[lF _ i hi,lF _ i hi];by_cases h:k=i
  ·subst h;simp[upd,hi]
  ·have h':¬i=k:=λe=>h e.symm
   simp[upd,h,h']
 ·have h1:(arr f)[i]?=none:=by rw[Array.getElem?_eq_none];rw[Zo];omega
  have h2:(arr (upd f k v))[i]?=none:=by rw[Array.getElem?_eq_none];rw[Zo];omega
  rw[h1,h2];split
  ·rename_i h;subst h;simp[hi]
  ·rfl
theorem Zs:(#[.int .i64 0,.int .i64 0,.int .i64 0,.int .i64 0,.int .i64 0,.int .i64 0,.int .i64 0,.int .i64 0,.int .i64 0,.int .i64 0,.int .i64 0,.int .i64 0,.int .i64 0,.int .i64 0,.int .i64 0,.int .i64 0]:Array Value)=arr (λ_=>0):=rfl
theorem bj(f:Nat->Int):(arr f).all (·.oneCell')=true:=by
 rw[Array.all_eq_true_iff_forall_mem];intro v hv;simp[arr]at hv;obtain⟨i,_,rfl⟩:=hv;rfl
theorem ai.set(h:ai w g f)(k:Nat)(v:Int):ai (w.setCell ⟨g,k,none⟩ (.int .i64 v)) g (upd f k v):=by
 refine⟨by have:=h.1;simpa[World.setCell]using this,?_⟩;show(w.heap.modify g _)[g]?=_;rw[Array.getElem?_modify,ax rfl,h.2];simp only[Option.map_some,Option.isSome_none,Bool.false_eq_true,if_false];rw[Jr]
theorem ai.aq(h:ai w g f){q:Nat}(hq:q≠g)(k:Nat)(v:Value):ai (w.setCell ⟨q,k,none⟩ v) g f:=by
 refine⟨by have:=h.1;simpa[World.setCell]using this,?_⟩;show(w.heap.modify q _)[g]?=_;rw[Array.getElem?_modify,ab hq,h.2]
theorem ai.setRow(h:ai w g f)(f':Nat->Int):ai (w.setRow g (arr f')) g f':=by
 refine⟨by have:=h.1;simpa[World.setRow]using this,?_⟩;show(w.heap.modify g _)[g]?=_;rw[Array.getElem?_modify,ax rfl,h.2];rfl
theorem ai.gm(h:ai w g f){q:Nat}(hq:q≠g)(c:Array Value):ai (w.setRow q c) g f:=by
 refine⟨by have:=h.1;simpa[World.setRow]using this,?_⟩;show(w.heap.modify q _)[g]?=_;rw[Array.getElem?_modify,ab hq,h.2]
theorem Zu{B:Nat}{a:World}(h:Below B a w){g:Nat}(hg:B<=g)(c:Array Value):Below B a (w.setRow g c):=by
 refine⟨h.os,h.tape,h.output,by have:=h.size;simpa[World.setRow]using this,λk hk=>?_⟩;show(w.heap.modify g _)[k]?=_;rw[Array.getElem?_modify,ab (by omega),h.block k hk]
theorem ai.frozen(h:ai w g f)(k:Nat):w.frozen? ⟨g,k,none⟩=false:=by
 simp[World.frozen?,h.2]
theorem ai.congr{f':Nat->Int}(h:ai w g f)(hf:∀i,i<16->f i=f' i):ai w g f':=⟨h.1,by rw[h.2,Jq hf]⟩
namespace Cd
def rW(W:Nat->Int)(p q:Nat):Nat->Int:=upd (upd (upd W p 0) q 0) (min p q) (W p+W q)
def Xp(T:Nat->Int)(p q:Nat):Nat->Int:=λi=>if T i=p\/T i=q then(min p q:Nat) else T i
def Xe(T L:Nat->Int)(p q:Nat):Nat->Int:=λi=>if T i=p\/T i=q then L i+1 else L i
def dS:Nat->(Nat->Int)->(Nat->Int)->(Nat->Int)->(Nat->Int)
 |0,_,_,L=>L
 |n+1,W,T,L=>if(WJ W 16).2=-1 then L else dS n (rW W (WJ W 16).1.toNat (WJ W 16).2.toNat) (Xp T (WJ W 16).1.toNat (WJ W 16).2.toNat) (Xe T L (WJ W 16).1.toNat (WJ W 16).2.toNat)
def VH(c:Nat->Int):(Nat->Int)×Int :=
 if ¬Wk c 2048 16 then(λ_=>0,3) else if(WJ c 16).1=-1 then(λ_=>0,5) else if(WJ c 16).2=-1 then(upd (λ_=>0) (WJ c 16).1.toNat 1,0) else(dS 16 c (λi=>i) (λ_=>0),0)
def cnt(W:Nat->Int):Nat->Nat
 |0=>0
 |k+1=>cnt W k+(if W k=0 then 0 else 1)
def YY(W:Nat->Int):Nat->Int
 |0=>0
 |k+1=>YY W k+W k
theorem Js :∀k,k<=p->cnt (upd W p v) k=cnt W k:=by
 intro k
 induction k with
 |zero=>intro _;rfl
 |succ k ih=>intro h;rw[cnt,cnt,ih (by omega),Zl _ _ (by omega)]
theorem Jt :∀k,k<=p->YY (upd W p v) k=YY W k:=by
 intro k
 induction k with
 |zero=>intro _;rfl
 |succ k ih=>intro h;rw[YY,YY,ih (by omega),Zl _ _ (by omega)]
theorem xp :∀k,p<k->cnt (upd W p v) k+(if W p=0 then 0 else 1)=cnt W k+(if v=0 then 0 else 1):=by
 intro k
 induction k with
 |zero=>intro h;omega
 |succ k ih =>
  intro h;rw[cnt,cnt];by_cases hk:p=k
  ·subst hk;rw[Js p (Nat.le_refl _),ZL];omega
  ·have:=ih (by omega);rw[Zl _ _ (by omega)];omega
theorem ri :∀k,p<k->YY (upd W p v) k+W p=YY W k+v:=by
 intro k
 induction k with
 |zero=>intro h;omega
 |succ k ih =>
  intro h;rw[YY,YY];by_cases hk:p=k
  ·subst hk;rw[Jt p (Nat.le_refl _),ZL];omega
  ·have:=ih (by omega);rw[Zl _ _ (by omega)];omega
theorem rj :∀k,(∀i,i<k->0<=W i)->0<=YY W k:=by
 intro k
 induction k with
 |zero=>intro _;exact Int.le_refl _
 |succ k ih=>intro h;rw[YY];have:=h k (by omega);have:=ih (λi hi=>h i (by omega));omega
theorem Ju(h:∀i,i<16->0<=W i)(hp:p<16)(hq:q<16)(hne:p≠q):W p+W q<=YY W 16:=by
 have h1:=ri (W:=W) (p:=p) (v:=0) 16 hp;have h2:=ri (W:=upd W p 0) (p:=q) (v:=0) 16 hq;rw[Zl _ _ (λe=>hne e.symm)]at h2;have h3:=rj (W:=upd (upd W p 0) q 0) 16 (λi hi=>by unfold upd;split;omega;split;omega;exact h i hi);omega
theorem rk(W:Nat->Int):∀k,cnt W k<=k:=by
 intro k
 induction k with
 |zero=>exact nl _
 |succ k ih=>rw[cnt];split<;>omega
theorem Jv :∀k,Wk W 2048 k->YY W k<=2048*k:=by
 intro k
 induction k with
 |zero=>intro _;simp[YY]
 |succ k ih=>intro h;rw[YY];have:=h k (by omega);have:=ih (λi hi=>h i (by omega));omega
theorem xq{T:Nat->Int}(h:(WJ W 16).2=-1):dS n W T L=L:=by
 cases n with
 |zero=>rfl
 |succ n=>rw[dS,ax h]
theorem xr{T:Nat->Int}(h:WJ W 16=((p:Int),(q:Int))):dS (n+1) W T L=dS n (rW W p q) (Xp T p q) (Xe T L p q):=by
 rw[dS,h,ab (by simp only;omega)];rfl
theorem xt{T:Nat->Int}(h:∀i,0<=L i/\L i+(n+1:Nat)<=16):∀i,0<=Xe T L p q i/\Xe T L p q i+(n:Nat)<=16:=by
 intro i;have:=h i;unfold Xe;split<;>omega
theorem Jw(W:Nat->Int):∀k,(WJ W k).1=(WJ W k).2->(WJ W k).1=-1:=by
 intro k
 induction k with
 |zero=>intro _;rfl
 |succ k ih =>
  have hs:=aas W k
  have far:∀a,aar W k a->a≠(k:Int):=by
   intro a h e;rcases h with h|⟨p,h1,h2,_⟩<;>omega
  rw[WJ,jF];by_cases h0:W k=0
  ·rw[ax h0];exact ih
  ·rw[ab h0];split
   ·intro h;exact absurd h.symm (far _ hs.1)
   ·split
    ·intro h;exact absurd h (far _ hs.1)
    ·exact ih
theorem oB(h:(WJ W 16).2 ≠ -1):∃p q:Nat,WJ W 16=((p:Int),(q:Int))/\p<16/\q<16/\p≠q/\W p≠0/\W q≠0:=by
 have first:∀k,(WJ W k).1=-1->(WJ W k).2=-1:=by
  intro k
  induction k with
  |zero=>intro _;rfl
  |succ k ih =>
   rw[WJ,jF];by_cases h0:W k=0
   ·rw[ax h0];exact ih
   ·rw[ab h0];split
    ·intro h9;simp only at h9;omega
    ·rename_i h9
     split
     ·intro h8;exact absurd (Or.inl h8) h9
     ·intro h8;exact absurd (Or.inl h8) h9
 obtain⟨s1,s2⟩:=aas W 16;rcases s2 with s2|⟨q,e2,hq,n2⟩
 ·exact absurd s2 h
 rcases s1 with s1|⟨p,e1,hp,n1⟩
 ·exact absurd (first 16 s1) h
 refine⟨p,q,by rw[<-e1,<-e2],hp,hq,?_,n1,n2⟩;intro e;have:=Jw W 16 (by rw[e1,e2,e]);omega
theorem uw(h:∀i,i<16->0<=W i)(hp:p<16)(hq:q<16):∀i,i<16->0<=rW W p q i:=by
 intro i hi;have h1:=h p hp;have h2:=h q hq;have h3:=h i hi;unfold rW upd;split
 ·omega
 ·split
  ·omega
  ·split
   ·omega
   ·exact h3
theorem ux(h:∀i,i<16->0<=W i)(hp:p<16)(hq:q<16)(hne:p≠q)(n1:W p≠0)(n2:W q≠0):cnt (rW W p q) 16+1=cnt W 16/\YY (rW W p q) 16=YY W 16/\2<=cnt W 16:=by
 have h1:=h p hp;have h2:=h q hq;have c1:=xp (W:=W) (p:=p) (v:=0) 16 hp;have c2:=xp (W:=upd W p 0) (p:=q) (v:=0) 16 hq;have c3:=xp (W:=upd (upd W p 0) q 0) (p:=min p q) (v:=W p+W q) 16 (by omega);have t1:=ri (W:=W) (p:=p) (v:=0) 16 hp;have t2:=ri (W:=upd W p 0) (p:=q) (v:=0) 16 hq;have t3:=ri (W:=upd (upd W p 0) q 0) (p:=min p q) (v:=W p+W q) 16 (by omega)
 have z:upd (upd W p 0) q 0 (min p q)=0:=by
  unfold upd;split
  ·rfl
  ·rename_i h9
   rw[ax];omega
 have hn:¬W p+W q=0:=by omega
 rw[Zl _ _ (λe=>hne e.symm)]at c2 t2;rw[z]at c3 t3;simp only[ab n1,ab n2,ab hn,if_true]at c1 c2 c3;unfold rW;refine⟨?_,?_,?_⟩<;>omega
end Cd
theorem rl(w:World)(c:Nat->Int)(o:Nat->Int):ai (((w.alloc (.cells (arr c) 142)).alloc (.cells (arr o) 142)).alloc (.cells (arr o) 142)) w.heap.size c ∧
 ai (((w.alloc (.cells (arr c) 142)).alloc (.cells (arr o) 142)).alloc (.cells (arr o) 142)) (w.heap.size+1) o ∧
 ai (((w.alloc (.cells (arr c) 142)).alloc (.cells (arr o) 142)).alloc (.cells (arr o) 142)) (w.heap.size+1+1) o ∧
 ae w (((w.alloc (.cells (arr c) 142)).alloc (.cells (arr o) 142)).alloc (.cells (arr o) 142)):=by
 obtain⟨h1,h2⟩:=ai.two w c o;refine⟨h1.alloc _,h2.alloc _,?_,(uv w _ _).alloc (by simp;omega) _⟩;have:=ai.new ((w.alloc (.cells (arr c) 142)).alloc (.cells (arr o) 142)) o;simpa using this
theorem ZU{P:Program}{fn:Func}{p:Tmp}{ty:TypeId}{q:Tmp}(h:fn.results=#[.cell p ty,.tmp q])(tmps:Array Value)(w:World)(g:Nat)(t:TypeId)(cs:Array Value)(fr:Nat×Nat)(d:TypeDesc)
 (hp:tmps.getD p undef=.pointer (some ⟨g,0,none⟩)) (hg:w.heap[g]?=some (.cells cs t fr))
 (hu:P.underlying ty=some d) (hd:(match d with|.struct _|.array _ _=>true|_=>false)=true) (hi:(P.info? ty).map (·.size)=some cs.size) (v:Value) (hq:tmps.getD q undef=v) :
 (results fn tmps).run P w=.ok (.tuple #[.agg cs,v]) w:=by
 subst hq;have hp':tmps[p]?.getD undef=.pointer (some ⟨g,0,none⟩):=by simpa using hp
 simp[results,h,hp',asAddr,run_loadVar_row w g t ty cs fr d hg hu hd hi]
theorem Jx(c:Nat->Int)(w:World)(h1:¬Wk c 2048 16) :
 CB 183 #[.agg (arr c)] w (.tuple #[.agg (arr (λ_=>0)),.int .i64 3]):=by
 have hcn:=λw=>Cr c w
 rw[decide_eq_false h1]at hcn;have hin:=Zh c;have hz:=Zh (λ_=>0);obtain⟨R1,R2,R4,HB⟩:=rl w c (λ_=>0);rw[<-Zs]at R1 R2 R4 HB;clear h1;go_enter func183,ntmps183
 go_wp2_with (refine wpList_load_row rfl 142 _ rfl w.heap.size rfl 142 (arr c) (0,0) _ R1.2 aF rfl hin ?_)
 refine mo (hcn _) λw1 G1=>?_
 have S2:=R2.below G1;have S4:=R4.below G1;have B1:=ag HB G1;clear R1 R2 R4 HB G1 hcn;go_wp2_with (first|refine wpList_load_row rfl 142 _ rfl (w.heap.size+1+1) rfl 142 (arr λ_=>0) (0,0) _ S4.2 aF rfl hz ?_|refine wpList_store_row rfl 142 _ _ rfl (w.heap.size+1) (arr λ_=>0) rfl rfl 142 _ S2.2 hz rfl (bj _) ?_)
 have U2:=S2.setRow (λ_=>0);exact bodyPost_ret (v:=.tuple #[.agg (arr λ_=>0),.int .i64 3]) (ZU results183 _ _ (w.heap.size+1) 142 _ (0,0) _ rfl U2.2 aF rfl hz _ rfl) rfl ⟨rfl,Zu B1 (Nat.le_succ _) _⟩
structure bO(wr:World)(g2 g4 g5 g6:Nat)(L W T:Nat->Int):Prop where
 r2:ai wr g2 (λ_=>0)
 r4:ai wr g4 L
 r5:ai wr g5 W
 r6:ai wr g6 T
theorem bO.below{T:Nat->Int}(h:bO wr g2 g4 g5 g6 L W T)(hb:ae wr w'):bO w' g2 g4 g5 g6 L W T:=⟨h.r2.below hb,h.r4.below hb,h.r5.below hb,h.r6.below hb⟩
theorem bO.rm{T:Nat->Int}(h:bO wr g2 g4 g5 g6 L W T)(hq:g2<g4/\g4<g5/\g5<g6)(k:Nat)(v:Int):bO (wr.setCell ⟨g4,k,none⟩ (.int .i64 v)) g2 g4 g5 g6 (upd L k v) W T :=
 ⟨h.r2.aq (by omega) _ _,h.r4.set _ _,h.r5.aq (by omega) _ _,h.r6.aq (by omega) _ _⟩
theorem bO.ik{T:Nat->Int}(h:bO wr g2 g4 g5 g6 L W T)(hq:g2<g4/\g4<g5/\g5<g6)(k:Nat)(v:Int):bO (wr.setCell ⟨g5,k,none⟩ (.int .i64 v)) g2 g4 g5 g6 L (upd W k v) T :=
 ⟨h.r2.aq (by omega) _ _,h.r4.aq (by omega) _ _,h.r5.set _ _,h.r6.aq (by omega) _ _⟩
theorem bO.rn{T:Nat->Int}(h:bO wr g2 g4 g5 g6 L W T)(hq:g2<g4/\g4<g5/\g5<g6)(k:Nat)(v:Int):bO (wr.setCell ⟨g6,k,none⟩ (.int .i64 v)) g2 g4 g5 g6 L W (upd T k v) :=
 ⟨h.r2.aq (by omega) _ _,h.r4.aq (by omega) _ _,h.r5.aq (by omega) _ _,h.r6.set _ _⟩
theorem Jy{w1:World}(c:Nat->Int)(S2:ai w1 g2 (λ_=>0))(S4:ai w1 g4 (λ_=>0)):bO ((w1.alloc (.cells (arr c) 142)).alloc (.cells (arr λ_=>0) 142)) g2 g4 w1.heap.size (w1.heap.size+1) (λ_=>0) c (λ_=>0):=by
 obtain⟨h1,h2⟩:=ai.two w1 c (λ_=>0);exact⟨(S2.alloc _).alloc _,(S4.alloc _).alloc _,h1,h2⟩
theorem Jz(c:Nat->Int)(w:World)(h1:Wk c 2048 16) :
 CB 183 #[.agg (arr c)] w (.tuple #[.agg (arr (VH c).1),.int .i64 (VH c).2]):=by
 have hcn:=λw=>Cr c w
 rw[decide_eq_true h1]at hcn;have hin:=Zh c;have hz:=Zh (λ_=>0);obtain⟨R1,R2,R4,HB⟩:=rl w c (λ_=>0);rw[<-Zs]at R1 R2 R4 HB;have HR:=Za h1;clear h1
 obtain⟨r1,r2,hr⟩:∃r1 r2,VH c=(r1,r2):=⟨_,_,rfl⟩
 rw[hr];have Hr:=Za hr;clear hr;go_enter func183,ntmps183
 go_wp2_with (refine wpList_load_row rfl 142 _ rfl w.heap.size rfl 142 (arr c) (0,0) _ R1.2 aF rfl hin ?_)
 refine mo (hcn _) λw1 G1=>?_
 have S1:=R1.below G1;have S2:=R2.below G1;have S4:=R4.below G1;have B1:=ag HB G1;clear R1 R2 R4 HB G1 hcn;have hs2:=S4.1;have F:=Jy c S2 S4;have B3:ae w ((w1.alloc (.cells (arr c) 142)).alloc (.cells (arr λ_=>0) 142)):=(B1.alloc (by omega) _).alloc (by simp;omega) _;rw[<-Zs]at F B3;go_wp2_with (first|refine wpList_load_row rfl 142 _ rfl w.heap.size rfl 142 (arr c) (0,0) _ S1.2 aF rfl hin ?_|(refine wpList_store_row rfl 142 _ _ rfl w1.heap.size (arr c) rfl rfl 142 _ (heap_alloc_last w1 _) hin rfl (bj _) ?_;rw[World.setRow_alloc_new]))
 clear S1 S2 S4 B1;have hq0:w.heap.size+1<w.heap.size+1+1/\w.heap.size+1+1<w1.heap.size/\w1.heap.size<w1.heap.size+1:=by omega
 have hN:w.heap.size<=w.heap.size+1:=by omega
 clear hs2;rw[Zs]at F B3;rw[Zs];generalize (w1.alloc (.cells (arr c) 142)).alloc (.cells (arr λ_=>0) 142)=w2 at*;generalize w.heap.size+1+1=g4 at*;generalize w.heap.size+1=g2 at*;generalize w1.heap.size+1=g6 at*;generalize w1.heap.size=g5 at*;have hq:=Za hq0;have hN':=Za hN;clear hq0 hN;go_loopw [19] (λi wr=>∃k:Nat,k<=16/\i=.int .i64 k/\bO wr g2 g4 g5 g6 (λ_=>0) c (λi=>if i<k then i else 0)/\ae w wr) (λi _=>16-(intOf i).toNat)
 case atStart=>exact⟨0,by omega,rfl,⟨F.r2,F.r4,F.r5,F.r6.congr (λi _=>by simp)⟩,B3⟩
 case round =>
  obtain⟨k,hk,rfl,F,B⟩:=hrel;by_cases hlt:k<16
  ·have hk1:=al (by omega:(k:Int)<16);have hk2:=al (by omega:k<16);have hc6:=F.r6.cell k hlt;have JA:=F.r6.frozen k;go_wp2_with fail
   go_roundw
   case rel =>
    refine⟨k+1,by omega,by go_num,?_,B.setCell (by have:=hq.out;have:=hN'.out;show _<=g6;omega) _⟩;have F':=F.rn hq.out k (k:Int);refine⟨F'.r2,F'.r4,F'.r5,F'.r6.congr (λi hi=>?_)⟩;show upd _ k (k:Int) i=if i<k+1 then(i:Int) else 0
    unfold upd;simp only;by_cases h9:i=k
    ·subst h9;simp
    ·rw[ab h9];by_cases h8:i<k
     ·rw[ax h8,ax (by omega)]
     ·rw[ab h8,ab (by omega)]
   case measure=>simp[intOf];omega
  ·have F1:bO wr g2 g4 g5 g6 (λ_=>0) c (λi=>i):=⟨F.r2,F.r4,F.r5,F.r6.congr (λi hi=>by rw[ax (by omega)])⟩
   obtain rfl:k=16:=by omega
   clear F;have ki:=λw=>Ct c w
   obtain⟨A,B',hAB⟩:∃A B,WJ c 16=(A,B):=⟨_,_,rfl⟩
   rw[hAB]at ki;have HAB:=Za hAB;clear hAB;go_wp2_with (refine wpList_load_row rfl 142 _ rfl g5 rfl 142 (arr c) (0,0) _ F1.r5.2 aF rfl hin ?_)
   refine mo (ki _) λw3 G3=>?_
   have F3:=F1.below G3;have B3':=ag B G3;clear F1 G3 ki B;by_cases hA:A=-1
   ·have h9:=Hr.out.symm.trans (show VH c=(λ_=>0,5) by rw[VH,ab (λh=>h HR.out),ax (by rw[HAB.out];exact hA)]);simp only[Prod.mk.injEq]at h9;obtain⟨rfl,rfl⟩:=h9;subst hA;go_wp2_with (first|refine wpList_load_row rfl 142 _ rfl g4 rfl 142 (arr λ_=>0) (0,0) _ F3.r4.2 aF rfl hz ?_|refine wpList_store_row rfl 142 _ _ rfl g2 (arr λ_=>0) rfl rfl 142 _ F3.r2.2 hz rfl (bj _) ?_)
    have U2:=F3.r2.setRow (λ_=>0);exact bodyPost_ret (v:=.tuple #[.agg (arr λ_=>0),.int .i64 5]) (ZU results183 _ _ g2 142 _ (0,0) _ rfl U2.2 aF rfl hz _ rfl) rfl ⟨rfl,Zu B3' hN'.out _⟩
   ·have dA:(A == -1)=false:=by simpa using hA
    obtain⟨p,rfl,hp,_⟩:∃p:Nat,A=p/\p<16/\c p≠0:=by
     have:=(aas c 16).1;rw[HAB.out]at this;exact this.resolve_left hA
    clear hA;have hp1:(p:Int)<16:=by omega
    by_cases hB:B'=-1
    ·have h9:=Hr.out.symm.trans (show VH c=(upd (λ_=>0) p 1,0) by rw[VH,ab (λh=>h HR.out),ab (by rw[HAB.out];simp only;omega),ax (by rw[HAB.out];exact hB),HAB.out];rfl);simp only[Prod.mk.injEq]at h9;obtain⟨rfl,rfl⟩:=h9;subst hB;have hc4:=F3.r4.cell p hp;have hf4:=F3.r4.frozen p;have F4:=F3.rm hq.out p 1;have hi1:=Zh (upd (λ_=>0) p 1);go_wp2_with fail
     refine wp_loop_rounds 1 ?_;rw[rounds_succ];go_wp2_with (first|refine wpList_load_row rfl 142 _ rfl g4 rfl 142 (arr (upd (λ_=>0) p 1)) (0,0) _ F4.r4.2 aF rfl hi1 ?_|refine wpList_store_row rfl 142 _ _ rfl g2 (arr (upd (λ_=>0) p 1)) rfl rfl 142 _ F4.r2.2 hi1 (by rw[Zo,Zo]) (bj _) ?_)
     have U2:=F4.r2.setRow (upd (λ_=>0) p 1);exact bodyPost_ret (v:=.tuple #[.agg (arr (upd (λ_=>0) p 1)),.int .i64 0]) (ZU results183 _ _ g2 142 _ (0,0) _ rfl U2.2 aF rfl hi1 _ rfl) rfl ⟨rfl,Zu (B3'.setCell (by have:=hq.out;have:=hN'.out;show _<=g4;omega) _) hN'.out _⟩
    ·have dB:(B' == -1)=false:=by simpa using hB
     have h9:=Hr.out.symm.trans (show VH c=(dS 16 c (λi=>i) (λ_=>0),0) by rw[VH,ab (λh=>h HR.out),ab (by rw[HAB.out];simp only;omega),ab (by rw[HAB.out];exact hB)]);simp only[Prod.mk.injEq]at h9;obtain⟨h8,rfl⟩:=h9
     have H8:Hid ((∀i,i<16->0<=c i)/\YY c 16<=32768/\Cd.cnt c 16<=16/\(∀i,0<=(λ_:Nat=>(0:Int)) i/\(λ_:Nat=>(0:Int)) i+(16:Nat)<=16)/\dS 16 c (λi=>i) (λ_=>0)=r1) :=
      ⟨λi hi=>(HR.out i hi).1,by have:=Jv 16 HR.out;omega,Cd.rk c 16,λi=>⟨Int.le_refl _,by simp⟩,h8.symm⟩
     clear h8 hB;go_wp2_with fail
     go_loopg [8,9] 16 (λn a b wr=>∃(W T L:Nat->Int) (A B:Int),a=.int .i64 A/\b=.int .i64 B/\Hid (WJ W 16=(A,B))/\bO wr g2 g4 g5 g6 L W T/\ae w wr/\Hid ((∀i,i<16->0<=W i)/\YY W 16<=32768/\Cd.cnt W 16<=n/\(∀i,0<=L i/\L i+(n:Nat)<=16)/\dS n W T L=r1))
     case atStart=>exact⟨c,λi=>i,λ_=>0,p,B',rfl,rfl,HAB,F3,B3',H8⟩
     case round =>
      clear HAB F3 B3' H8 dA dB hp1 hp;obtain⟨W,T,L,A,B',rfl,rfl,HAB,F3,B3',H8⟩:=hrel;by_cases hB:B'=-1
      ·have e:L=r1:=by
        have:=H8.out.2.2.2.2
        rwa [xq (by rw[HAB.out];exact hB)]at this
       subst e;subst hB;have hi1:=Zh L;go_wp2_with (first|refine wpList_load_row rfl 142 _ rfl g4 rfl 142 (arr L) (0,0) _ F3.r4.2 aF rfl hi1 ?_|refine wpList_store_row rfl 142 _ _ rfl g2 (arr L) rfl rfl 142 _ F3.r2.2 hi1 (by rw[Zo,Zo]) (bj _) ?_)
       have U2:=F3.r2.setRow L;exact bodyPost_ret (v:=.tuple #[.agg (arr L),.int .i64 0]) (ZU results183 _ _ g2 142 _ (0,0) _ rfl U2.2 aF rfl hi1 _ rfl) rfl ⟨rfl,Zu B3' hN'.out _⟩
      ·obtain⟨p,q,hpq,hp,hq1,hne,n1,n2⟩:=Cd.oB (W:=W) (by rw[HAB.out];exact hB);rw[HAB.out,Prod.mk.injEq]at hpq;obtain⟨rfl,rfl⟩:=hpq;have dB:((q:Int) != -1)=true:=by simp
       have Hn:Hid (p≠q/\W p≠0/\W q≠0):=⟨hne,n1,n2⟩
       have hp':(p:Int)<16:=by omega
       have hq':(q:Int)<16:=by omega
       have hiT:=Zh T;clear hB hne n1 n2;go_wp2_with (refine wpList_load_row rfl 142 _ rfl g6 rfl 142 (arr T) (0,0) _ F3.r6.2 aF rfl hiT ?_)
       rw[show min (p:Int) (q:Int)=((min p q:Nat):Int) by omega];have xu:min p q<16:=by omega
       have hm':((min p q:Nat):Int)<16:=by omega
       have JB:Hid (∀i,Xp T p q i=if T i=p\/T i=q then((min p q:Nat):Int) else T i):=λi=>rfl
       have JC:Hid (upd (upd (upd W p 0) q 0) (min p q) (W p+W q)=rW W p q):=rfl;generalize min p q=m at*;go_loopw [44] (λi wr=>∃k:Nat,k<=16/\i=.int .i64 k/\bO wr g2 g4 g5 g6 (λi=>if i<k then Xe T L p q i else L i) W (λi=>if i<k then Xp T p q i else T i)/\ae w wr) (λi _=>16-(intOf i).toNat)
       case atStart=>exact⟨0,by omega,rfl,⟨F3.r2,F3.r4.congr (λi _=>by simp),F3.r5,F3.r6.congr (λi _=>by simp)⟩,B3'⟩
       case round =>
        clear F3 B3';obtain⟨k,hk,rfl,F,B⟩:=hrel;by_cases hlt:k<16
        ·have hk1:=al (by omega:(k:Int)<16);have hk2:=al (by omega:k<16);have hix:=cY T k hlt;have hc6:=F.r6.cell k hlt;have JA:=F.r6.frozen k;have F6:=F.rn hq.out k m;have hc4:=F6.r4.cell k hlt;have hf4:=F6.r4.frozen k;have F4:=F6.rm hq.out k (L k+1);have hLb:=H8.out.2.2.2.1 k;have hL1:=hLb.1;have hL2:L k<=16:=by omega
         simp only[Nat.lt_irrefl,if_false]at hc6 hc4
         have Cu:T k=p\/T k=q->bO ((wr.setCell ⟨g6,k,none⟩ (.int .i64 m)).setCell ⟨g4,k,none⟩ (.int .i64 (L k+1))) g2 g4 g5 g6 (λi=>if i<k+1 then Xe T L p q i else L i) W (λi=>if i<k+1 then Xp T p q i else T i):=λh=>by
          refine⟨F4.r2,F4.r4.congr (λi hi=>?_),F4.r5,F4.r6.congr (λi hi=>?_)⟩
          ·show upd _ k (L k+1) i=if i<k+1 then Xe T L p q i else L i
           unfold upd;simp only;by_cases h9:i=k
           ·subst h9;rw[ax rfl,ax (by omega),Xe,ax h]
           ·rw[ab h9];by_cases h8:i<k
            ·rw[ax h8,ax (by omega)]
            ·rw[ab h8,ab (by omega)]
          ·show upd _ k (m:Int) i=if i<k+1 then Xp T p q i else T i
           unfold upd;simp only;by_cases h9:i=k
           ·subst h9;rw[ax rfl,ax (by omega),JB.out,ax h]
           ·rw[ab h9];by_cases h8:i<k
            ·rw[ax h8,ax (by omega)]
            ·rw[ab h8,ab (by omega)]
         have F0:¬(T k=p\/T k=q)->bO wr g2 g4 g5 g6 (λi=>if i<k+1 then Xe T L p q i else L i) W (λi=>if i<k+1 then Xp T p q i else T i):=λh=>by
          refine⟨F.r2,F.r4.congr (λi hi=>?_),F.r5,F.r6.congr (λi hi=>?_)⟩
          ·show(if i<k then Xe T L p q i else L i)=if i<k+1 then Xe T L p q i else L i
           by_cases h9:i=k
           ·subst h9;rw[ab (Nat.lt_irrefl _),ax (by omega),Xe,ab h]
           ·by_cases h8:i<k
            ·rw[ax h8,ax (by omega)]
            ·rw[ab h8,ab (by omega)]
          ·show(if i<k then Xp T p q i else T i)=if i<k+1 then Xp T p q i else T i
           by_cases h9:i=k
           ·subst h9;rw[ab (Nat.lt_irrefl _),ax (by omega),Xp,ab h]
           ·by_cases h8:i<k
            ·rw[ax h8,ax (by omega)]
            ·rw[ab h8,ab (by omega)]
         have Cv:=Za Cu;have mh:=Za F0;have pP:Hid (ae w ((wr.setCell ⟨g6,k,none⟩ (.int .i64 m)).setCell ⟨g4,k,none⟩ (.int .i64 (L k+1)))):=(B.setCell (by have:=hq.out;have:=hN'.out;show _<=g6;omega) _).setCell (by have:=hq.out;have:=hN'.out;show _<=g4;omega) _;clear F4 Cu F6 F0 F hLb;by_cases hx:T k=p
         ·have d1:(T k==(p:Int))=true:=by simpa using hx
          have kB:=Cv.out (.inl hx);generalize T k=x at*;generalize L k=y at*;clear hx;go_wp2_with fail
          go_roundw
          case rel=>exact⟨k+1,by omega,by go_num,kB,pP.out⟩
          case measure=>simp[intOf];omega
         ·have d1:(T k==(p:Int))=false:=by simpa using hx
          by_cases hy:T k=q
          ·have d2:(T k==(q:Int))=true:=by simpa using hy
           have kB:=Cv.out (.inr hy);generalize T k=x at*;generalize L k=y at*;clear hx hy;go_wp2_with fail
           go_roundw
           case rel=>exact⟨k+1,by omega,by go_num,kB,pP.out⟩
           case measure=>simp[intOf];omega
          ·have d2:(T k==(q:Int))=false:=by simpa using hy
           have kB:=mh.out (λh=>h.elim hx hy);generalize T k=x at*;generalize L k=y at*;clear hx hy;go_wp2_with fail
           go_roundw
           case rel=>exact⟨k+1,by omega,by go_num,kB,B⟩
           case measure=>simp[intOf];omega
        ·obtain rfl:k=16:=by omega
         have F':bO wr g2 g4 g5 g6 (Xe T L p q) W (Xp T p q):=⟨F.r2,F.r4.congr (λi hi=>by rw[ax hi]),F.r5,F.r6.congr (λi hi=>by rw[ax hi])⟩
         clear F;have hcp:=F'.r5.cell p hp;have hcq:=F'.r5.cell q hq1;have hsum:=Ju H8.out.1 hp hq1 Hn.out.1;have UF:=H8.out.1 p hp;have UG:=H8.out.1 q hq1;have htt:=H8.out.2.1;have hs1:W p<=32768:=by omega
         have hs2:W q<=32768:=by omega
         clear hsum htt;go_wp2_with fail
         go_quiet (fail)
         have F7:=F'.below (below_drewN (bR wr.heap.size wr) nq);have B7:=below_drewN B nq;clear F' B hcp hcq;generalize wr.drewN nq=wq at*;have a1:=F7.r5.cell p hp;have a2:=F7.r5.frozen p;have Fa:=F7.ik hq.out p 0;have a3:=Fa.r5.cell q hq1;have a4:=Fa.r5.frozen q;have Fb:=Fa.ik hq.out q 0;have a5:=Fb.r5.cell m xu;have a6:=Fb.r5.frozen m;have Fc:=Fb.ik hq.out m (W p+W q);rw[JC.out]at Fc;have hg5:w.heap.size<=g5:=by have:=hq.out;have:=hN'.out;omega
         have Bc:=((B7.setCell (p:=⟨g5,p,none⟩) hg5 (.int .i64 0)).setCell (p:=⟨g5,q,none⟩) hg5 (.int .i64 0)).setCell (p:=⟨g5,m,none⟩) hg5 (.int .i64 (W p+W q));clear F7 Fa Fb B7 hg5;have ki:=λw=>Ct (rW W p q) w
         obtain⟨A2,B2,oC⟩:∃A B,WJ (rW W p q) 16=(A,B):=⟨_,_,rfl⟩
         rw[oC]at ki;have xv:=Za oC;have JD:=Zh (rW W p q)
         obtain⟨n,hn,hnew⟩:∃n,gk=n+1/\Hid ((∀i,i<16->0<=rW W p q i)/\YY (rW W p q) 16<=32768/\Cd.cnt (rW W p q) 16<=n/\(∀i,0<=Xe T L p q i/\Xe T L p q i+(n:Nat)<=16)/\dS n (rW W p q) (Xp T p q) (Xe T L p q)=r1):=by
          obtain⟨e1,e2,e3,e4,e5⟩:=H8.out;obtain⟨x1,x2,x3⟩:=Cd.ux e1 hp hq1 Hn.out.1 Hn.out.2.1 Hn.out.2.2;have hgk:gk=(gk-1)+1:=by omega
          refine⟨gk-1,hgk,uw e1 hp hq1,by omega,by omega,Cd.xt (λi=>by have:=e4 i;rw[<-hgk];exact this),?_⟩;rw[hgk,Cd.xr HAB.out]at e5;exact e5
         clear oC;have JE:=Za hn;clear hn;generalize W p+W q=z at*;go_wp2_with (refine wpList_load_row rfl 142 _ rfl g5 rfl 142 (arr (rW W p q)) (0,0) _ Fc.r5.2 aF rfl JD ?_)
         refine mo (ki _) λw5 G5=>?_
         have Fd:=Fc.below G5;have Bd:=ag Bc G5;clear Fc Bc G5 ki a1 a2 a3 a4 a5 a6;go_wp2_with fail
         go_roundg n
         case measure=>have:=JE.out;omega
         case rel=>exact⟨rW W p q,Xp T p q,Xe T L p q,A2,B2,rfl,rfl,xv,Fd,Bd,hnew⟩
theorem JF(c:Nat->Int)(w:World) :
 CB 183 #[.agg (arr c)] w (.tuple #[.agg (arr (VH c).1),.int .i64 (VH c).2]):=by
 by_cases h:Wk c 2048 16
 ·exact Jz c w h
 ·have h9:VH c=(λ_=>0,3):=by rw[VH,ax h]
  rw[h9];exact Jx c w h
namespace Cd
def wI(f:Nat->Int)(n:Int)(x:Int×(Nat->Int)):Nat->Int×(Nat->Int)
 |0=>x
 |k+1=>if f k=n then((wI f n x k).1+1,upd (wI f n x k).2 k (wI f n x k).1) else wI f n x k
def wO(f:Nat->Int):Nat->Int×(Nat->Int)
 |0=>(0,λ_=>0)
 |n+1=>wI f (n+1:Nat) ((wO f n).1*2,(wO f n).2) 16
def VM(f:Nat->Int):Nat->Int:=(wO f 15).2
theorem kE(f:Nat->Int)(n:Int)(x:Int×(Nat->Int)):∀k,x.1<=(wI f n x k).1/\(wI f n x k).1<=x.1+k:=by
 intro k
 induction k with
 |zero=>simp[wI]
 |succ k ih =>
  rw[wI];split
  ·simp only;omega
  ·omega
theorem eV(f:Nat->Int):∀n,0<=(wO f n).1/\(wO f n).1<=16*(2^n-1):=by
 intro n
 induction n with
 |zero=>simp[wO]
 |succ n ih =>
  have:=kE f (n+1:Nat) ((wO f n).1*2,(wO f n).2) 16;simp only at this;rw[wO,Int.pow_succ];omega
theorem xw(f:Nat->Int){n:Nat}(h:n<=15):0<=(wO f n).1/\(wO f n).1<=524288:=by
 have h1:=eV f n;have h2:=rb h;omega
end Cd
theorem Cw(f:Nat->Int)(w:World) :
 CB 214 #[.agg (arr f)] w (.agg (arr (VM f))):=by
 obtain⟨R1,R2,R3,HB⟩:=rl w f (λ_=>0);rw[<-Zs]at R1 R2 R3 HB;go_enter func214,ntmps214
 go_wp2_with fail
 rw[Zs]at R1 R2 R3 HB;rw[Zs];generalize ((w.alloc (.cells (arr f) 142)).alloc (.cells (arr λ_=>0) 142)).alloc (.cells (arr λ_=>0) 142)=w0 at*;have hq:Hid (w.heap.size<w.heap.size+1/\w.heap.size+1<w.heap.size+1+1/\w.heap.size<=w.heap.size):=by show _/\_/\_;omega
 obtain⟨g1,hg1⟩:∃g1,g1=w.heap.size:=⟨_,rfl⟩
 have hq1:Hid (g1<w.heap.size+1/\w.heap.size+1<w.heap.size+1+1/\w.heap.size<=g1):=by show _/\_/\_;omega
 generalize w.heap.size+1+1=g3 at*;generalize w.heap.size+1=g2 at*;clear hq hg1;go_loopw [4,5] (λx i wr=>∃(n:Nat) (N1:Int),n<=15/\i=.int .i64 N1/\Hid (N1=(n+1:Nat))/\x=.int .i64 (wO f n).1/\ai wr w.heap.size f/\ai wr g2 (λ_=>0)/\ai wr g3 (wO f n).2/\ae w wr) (λ_ i _=>20-(intOf i).toNat)
 case atStart=>exact⟨0,1,by omega,rfl,rfl,rfl,R1,R2,R3,HB⟩
 case round =>
  clear R1 R2 R3 HB;obtain⟨n,N1,hn,rfl,ee,rfl,R1,R2,R3,HB⟩:=hrel;have hb:=xw f hn;have hNb:1<=N1/\N1<=16:=by have:=ee.out;omega
  by_cases hlt:n<15
  ·have hk1:decide (N1<=15)=true:=by have:=ee.out;simp;omega
   have HE:Hid (wO f (n+1)=wI f N1 ((wO f n).1*2,(wO f n).2) 16):=by show _=_;rw[ee.out];rfl
   have xx:Hid (N1+1=(n+1+1:Nat)):=by have:=ee.out;show _=_;omega
   generalize wO f n=V at*;obtain⟨X,V⟩:=V;simp only at hb R3 HE;clear hn;go_wp2_with fail
   go_loopw [4,13] (λx i wr=>∃k:Nat,k<=16/\i=.int .i64 k/\x=.int .i64 (wI f N1 (X*2,V) k).1/\ai wr w.heap.size f/\ai wr g2 (λ_=>0)/\ai wr g3 (wI f N1 (X*2,V) k).2/\ae w wr) (λ_ i _=>16-(intOf i).toNat)
   case atStart=>exact⟨0,by omega,rfl,rfl,R1,R2,R3,HB⟩
   case round =>
    clear R1 R2 R3 HB;obtain⟨k,hk,rfl,rfl,R1,R2,R3,HB⟩:=hrel;by_cases hlt2:k<16
    ·have hk2:=al (by omega:(k:Int)<16);have hk3:=al (by omega:k<16);have hc1:=R1.cell k hlt2;have hc3:=R3.cell k hlt2;have hf3:=R3.frozen k;have hbb:=kE f N1 (X*2,V) k;have hy0:0<=(wI f N1 (X*2,V) k).1:=by simp only at hbb;omega
     have hy1:(wI f N1 (X*2,V) k).1<=1048592:=by simp only at hbb;omega
     have R3':=R3.set k (wI f N1 (X*2,V) k).1;have Cx:=R1.aq (q:=g3) (by have:=hq1.out;omega) k (.int .i64 (wI f N1 (X*2,V) k).1);have R2':=R2.aq (q:=g3) (by have:=hq1.out;omega) k (.int .i64 (wI f N1 (X*2,V) k).1);have HB':=HB.setCell (p:=⟨g3,k,none⟩) (by have:=hq1.out;show _<=g3;omega) (.int .i64 (wI f N1 (X*2,V) k).1);by_cases hx:f k=N1
     ·have d1:(f k==N1)=true:=by simpa using hx
      have HW:Hid (wI f N1 (X*2,V) (k+1)=((wI f N1 (X*2,V) k).1+1,upd (wI f N1 (X*2,V) k).2 k (wI f N1 (X*2,V) k).1)):=by show _=_;rw[wI,ax hx]
      generalize wI f N1 (X*2,V) k=U at*;generalize f k=z at*;clear hx hbb R1 R2 R3 HB hb;go_wp2_with fail
      go_roundw
      case rel=>exact⟨k+1,by omega,by go_num,by rw[HW.out],Cx,R2',by rw[HW.out];exact R3',HB'⟩
      case measure=>simp[intOf];omega
     ·have d1:(f k==N1)=false:=by simpa using hx
      have HW:Hid (wI f N1 (X*2,V) (k+1)=wI f N1 (X*2,V) k):=by show _=_;rw[wI,ab hx]
      generalize wI f N1 (X*2,V) k=U at*;generalize f k=z at*;clear hx hbb Cx R2' R3' HB' hb;go_wp2_with fail
      go_roundw
      case rel=>exact⟨k+1,by omega,by go_num,by rw[HW.out],R1,R2,by rw[HW.out];exact R3,HB⟩
      case measure=>simp[intOf];omega
    ·obtain rfl:k=16:=by omega
     rw[<-HE.out]at R3;rw[<-HE.out];go_wp2_with fail
     go_roundw
     case rel=>exact⟨n+1,N1+1,by omega,by go_num,xx,rfl,R1,R2,R3,HB⟩
     case measure=>simp[intOf];omega
  ·obtain rfl:n=15:=by omega
   obtain rfl:N1=16:=by have:=ee.out;omega
   have R3':ai wr g3 (VM f):=R3;have hi1:=Zh (VM f);clear R3;go_wp2_with (first|refine wpList_load_row rfl 142 _ rfl g3 rfl 142 (arr (VM f)) (0,0) _ R3'.2 aF rfl hi1 ?_|refine wpList_store_row rfl 142 _ _ rfl g2 (arr (VM f)) rfl rfl 142 _ R2.2 hi1 (by rw[Zo,Zo]) (bj _) ?_)
   have U2:=R2.setRow (VM f);exact bodyPost_ret (v:=.agg (arr (VM f))) (results_cell_row results214 _ _ g2 142 _ (0,0) _ rfl U2.2 aF rfl hi1) rfl ⟨rfl,Zu HB (by have:=hq1.out;omega) _⟩
namespace Cd
def WN(word:Int):Nat->List Bool
 |0=>[]
 |k+1=>decide (word/2^k%2=1) :: WN word k
theorem nG(word:Int):∀k,(WN word k).length=k:=by
 intro k
 induction k with
 |zero=>rfl
 |succ k ih=>simp[WN,ih]
def WE(b:Bool):Nat:=if b then 1 else 0
theorem xy(b:Bool):WE b<=1:=by cases b<;>decide
def aau(bs:List Bool)(i:Nat):Nat:=WE (bs.getD i false)
theorem eH(bs:List Bool)(i:Nat):aau bs i<=1:=xy _
theorem mi(bs:List Bool)(b:Bool){i:Nat}(h:i<bs.length):aau (bs++[b]) i=aau bs i:=by
 simp[aau,List.getD_eq_getElem?_getD,List.getElem?_append_left h]
theorem JG(bs:List Bool)(b:Bool):aau (bs++[b]) bs.length=WE b:=by
 simp[aau,List.getD_eq_getElem?_getD]
theorem ji(bs:List Bool){i:Nat}(h:bs.length<=i):aau bs i=0:=by
 simp[aau,List.getD_eq_getElem?_getD,List.getElem?_eq_none h,WE]
def eI(bs:List Bool)(j:Nat):Nat:=aau bs (8*j)*128+aau bs (8*j+1)*64+aau bs (8*j+2)*32+aau bs (8*j+3)*16+aau bs (8*j+4)*8+aau bs (8*j+5)*4+aau bs (8*j+6)*2+aau bs (8*j+7)
theorem Cy(bs:List Bool)(j:Nat):eI bs j<256:=by
 have h0:=eH bs (8*j);have h1:=eH bs (8*j+1);have h2:=eH bs (8*j+2);have h3:=eH bs (8*j+3);have h4:=eH bs (8*j+4);have h5:=eH bs (8*j+5);have h6:=eH bs (8*j+6);have h7:=eH bs (8*j+7);unfold eI;omega
theorem JH(bs:List Bool){j:Nat}(h:bs.length<=8*j):eI bs j=0:=by
 unfold eI;rw[ji bs (by omega),ji bs (by omega),ji bs (by omega),ji bs (by omega),ji bs (by omega),ji bs (by omega),ji bs (by omega),ji bs (by omega)]
theorem JI(bs:List Bool)(b:Bool){j:Nat}(h:8*j+7<bs.length):eI (bs++[b]) j=eI bs j:=by
 unfold eI;rw[mi bs b (by omega),mi bs b (by omega),mi bs b (by omega),mi bs b (by omega),mi bs b (by omega),mi bs b (by omega),mi bs b (by omega),mi bs b (by omega)]
theorem JJ(bs:List Bool)(b:Bool)(i:Nat):aau (bs++[b]) i=aau bs i+(if i=bs.length then WE b else 0):=by
 by_cases h:i<bs.length
 ·rw[mi bs b h,ab (by omega)];omega
 ·by_cases h1:i=bs.length
  ·subst h1;rw[JG,ax rfl,ji bs (Nat.le_refl _)];omega
  ·rw[ab h1,ji (bs++[b]) (by simp;omega),ji bs (by omega)]
theorem xA(bs:List Bool)(b:Bool)(j r:Nat)(hr:r<8)(hn:bs.length=8*j+r):eI (bs++[b]) j=eI bs j+WE b*2^(7-r)/\eI bs j%2^(8-r)=0:=by
 have hb:=xy b;unfold eI;simp only[JJ];rw[hn];obtain rfl|rfl|rfl|rfl|rfl|rfl|rfl|rfl:r=0\/r=1\/r=2\/r=3\/r=4\/r=5\/r=6\/r=7:=by omega
 all_goals
  have f0:=eH bs (8*j);have f1:=eH bs (8*j+1);have f2:=eH bs (8*j+2);have f3:=eH bs (8*j+3);have f4:=eH bs (8*j+4);have f5:=eH bs (8*j+5);have f6:=eH bs (8*j+6);have z:=λi (h:bs.length<=i)=>ji bs h
  have z0:=z (8*j);have z1:=z (8*j+1);have z2:=z (8*j+2);have z3:=z (8*j+3);have z4:=z (8*j+4);have z5:=z (8*j+5);have z6:=z (8*j+6);have z7:=z (8*j+7);constructor
  ·repeat (first|rw[ax (by omega)]|rw[ab (by omega)])
   omega
  ·omega
def Wc(bs:List Bool):List UInt8:=(List.range ((bs.length+7)/8)).map λj=>UInt8.ofNat (eI bs j)
theorem lH(bs:List Bool):(Wc bs).length=(bs.length+7)/8:=by simp[Wc]
theorem pQ(bs:List Bool){j:Nat}(h:j<(bs.length+7)/8):(Wc bs)[j]?=some (UInt8.ofNat (eI bs j)):=by simp[Wc,h]
def iD(bs:List Bool):List UInt8:=if bs.length%8=0 then Wc bs++[0] else Wc bs
theorem xB(bs:List Bool):(iD bs).length=bs.length/8+1:=by
 unfold iD;split
 ·rw[List.length_append,lH];simp;omega
 ·rw[lH];omega
theorem Cz(bs:List Bool){j:Nat}(h:j<bs.length/8+1):(iD bs)[j]?=some (UInt8.ofNat (eI bs j)):=by
 unfold iD;split
 ·rename_i h0
  by_cases hj:j<bs.length/8
  ·rw[List.getElem?_append_left (by rw[lH];omega),pQ bs (by omega)]
  ·rw[List.getElem?_append_right (by rw[lH];omega),lH,JH bs (by omega),show j-(bs.length+7)/8=0 by omega];rfl
 ·rw[pQ bs (by omega)]
theorem JK(bs:List Bool)(b:Bool):Wc (bs++[b])=(iD bs).set (bs.length/8) (UInt8.ofNat (eI bs (bs.length/8)+WE b*2^(7-bs.length%8))):=by
 have hn:bs.length=8*(bs.length/8)+bs.length%8:=by omega
 have hb:=xA bs b (bs.length/8) (bs.length%8) (by omega) hn;apply List.ext_getElem?;intro i;have hl:((bs++[b]).length+7)/8=bs.length/8+1:=by simp;omega
 by_cases hi:i<bs.length/8+1
 ·rw[pQ _ (by omega),List.getElem?_set];by_cases h1:bs.length/8=i
  ·rw[ax h1,ax (by rw[xB];omega),<-h1,hb.1]
  ·rw[ab h1,Cz bs hi,JI bs b (by omega)]
 ·rw[List.getElem?_eq_none (by rw[lH];omega),List.getElem?_eq_none (by rw[List.length_set,xB];omega)]
end Cd
theorem JL{word:Int}{K:Int}(h0:0<=word)(h1:word<=1048576)(hK:K=k):bits BinOp.and IntKind.i64 (word/2^K.toNat) 1%256=(WE (decide (word/2^k%2=1)):Nat):=by
 subst hK;rw[Int.toNat_natCast];have hp:=Cd.pow_pos k;have h2:0<=word/2^k:=Int.ediv_nonneg h0 (by omega);have h3:word/2^k<=word:=Int.ediv_le_self _ h0;have h:=bits_mask .i64 63 (by decide) (λn a b=>by rw[IntKind.wrap_i64];omega) 1 (by decide) (word/2^k) h2 (by omega);have e:((2:Int)^1-1)=1:=by decide
 have e2:((2:Int)^1)=2:=by decide
 rw[e,e2]at h;rw[h];generalize word/2^k=x at*;by_cases hx:x%2=1
 ·simp[hx,WE]
 ·have:x%2=0:=by omega
  simp[this,WE]
theorem JM{x r:Nat}{b:Bool}(hr:r<8)(hx:x<256)(hm:x%2^(8-r)=0):bits BinOp.or IntKind.u8 (x:Int) ((WE b:Nat)*2^(7-r)%256)=((x+WE b*2^(7-r):Nat):Int)/\x+WE b*2^(7-r)<256:=by
 have hb:=Cd.xy b
 have hlt:WE b*2^(7-r)<2^(8-r):=by
  have h1:2^(8-r)=2*2^(7-r):=by rw[show 8-r=(7-r)+1 by omega,Nat.pow_succ];omega
  have h2:0<2^(7-r):=Nat.pow_pos (by omega);rcases Nat.le_one_iff_eq_zero_or_eq_one.1 hb with h|h<;>rw[h]<;>omega
 have hle:2^(8-r)<=2^8:=Nat.pow_le_pow_right (by omega) (by omega)
 have hsum:x+WE b*2^(7-r)<256:=by
  have hd:2^(8-r) ∣ 256:=by
   refine⟨2^r,?_⟩;rw[<-Nat.pow_add,show 8-r+r=8 by omega]
  obtain⟨q,hq⟩:=hd;have CF:x=2^(8-r)*(x/2^(8-r)):=by have:=Nat.div_add_mod x (2^(8-r));omega
  have hlt2:x/2^(8-r)<q:=by
   apply Nat.lt_of_mul_lt_mul_left (a:=2^(8-r));omega
  have:2^(8-r)*(x/2^(8-r)+1)<=2^(8-r)*q:=Nat.mul_le_mul_left _ hlt2;rw[Nat.mul_add,Nat.mul_one]at this;omega
 refine⟨?_,hsum⟩
 have e:((WE b:Nat):Int)*2^(7-r)%256=((WE b*2^(7-r):Nat):Int):=by
  have:((WE b:Nat):Int)*2^(7-r)=((WE b*2^(7-r):Nat):Int):=by push_cast;rfl
  rw[this];have:2^(8-r)<=256:=hle;omega
 rw[e];have h:=(bits_nat .u8 8 (by decide) wraps_u8 x (WE b*2^(7-r)) (by omega) (by omega)).2;rw[h];have CF:x=2^(8-r)*(x/2^(8-r)):=by have:=Nat.div_add_mod x (2^(8-r));omega
 have h2:=Nat.two_pow_add_eq_or_of_lt hlt (x/2^(8-r));rw[<-CF]at h2;rw[<-h2]
theorem CJ{B:Nat}{v:Value}{l:List UInt8}(h:w.ownsRow B 5 1 v l.length (cz l))(hl:l ≠ []):∃g cap,v=.slice (some ⟨g,0,none⟩) l.length cap/\B<=g/\g<w.heap.size ∧
 (∀j b,l[j]?=some b->w.cell? ⟨g,j,none⟩=some (.int .u8 (b.toNat:Int)))/\(∀j,w.frozen? ⟨g,j,none⟩=false) ∧
 (∀j b,j<l.length->(w.setCell ⟨g,j,none⟩ (.int .u8 (UInt8.toNat b:Int))).ownsRow B 5 1 v (l.set j b).length (cz (l.set j b))):=by
 have hlen:=h.1;rcases h.2 with⟨_,h0⟩|⟨g,cap,cur,rfl,hb,hg,hnc,hcm,hcs,htk⟩
 ·exact absurd (List.eq_nil_of_length_eq_zero h0) hl
 ·rw[Nat.mul_one]at htk hcs;refine⟨g,cap,rfl,hb,(aG.1 hg).1,?_,λj=>by simp[World.frozen?,hg],?_⟩
  ·intro j b hj;have hj2:=(List.getElem?_eq_some_iff.1 hj).1;rw[cell_of_row w g j cur _ _ hg]
   have:(cur.toList.take l.length)[j]?=some (.int .u8 (b.toNat:Int)):=by
    rw[htk];simp[cz,hj]
   rw[List.getElem?_take,ax hj2]at this;simpa using this
  ·intro j b hj
   have hg2:(w.setCell ⟨g,j,none⟩ (.int .u8 (b.toNat:Int))).heap[g]?=some (.cells (cur.setIfInBounds j (.int .u8 (b.toNat:Int))) 5 (0,0)):=by
    show(w.heap.modify g _)[g]?=_;rw[Array.getElem?_modify,ax rfl,hg];rfl
   refine⟨by rw[mc];omega,.inr ⟨g,cap,_,by rw[List.length_set],hb,hg2,by rw[List.length_set];exact hnc,hcm,by simp;omega,?_⟩⟩;rw[List.length_set,Nat.mul_one,Array.toList_setIfInBounds,List.take_set,htk];simp[cz]
def bB(w:World)(gb:Nat)(bs:List Bool):Prop:=gb<w.heap.size/\∃v,w.heap[gb]?=some (.cells #[v,.int .i64 (bs.length:Nat)] 222 (0,0))/\w.ownsRow (gb+1) 5 1 v (Wc bs).length (cz (Wc bs))
end Go.Proofs.YtbjbjbpgmojcbacGreatDoor
namespace Go.Proofs.YtbjbjbpgmojcbacGreatDoor.Tk
open Ar Bk Cd Dk Im Tk Tr Vy
open Tryz
def dZ(l:List UInt8):Nat->Nat->Nat->Nat
 |_,_,0=>0
 |a,b,m+1=>if l[a]?=l[b]? then dZ l (a+1) (b+1) m+1 else 0
theorem uy(l:List UInt8):∀(m a b:Nat),dZ l a b m<=m:=by
 intro m
 induction m with
 |zero=>intro a b;simp[dZ]
 |succ m ih =>
  intro a b;rw[dZ];split
  ·have:=ih (a+1) (b+1);omega
  ·omega
theorem Yq(l:List UInt8):∀(m a b n:Nat),n<=m->(∀j,j<n->l[a+j]?=l[b+j]?)->(n=m\/l[a+n]? ≠ l[b+n]?)->dZ l a b m=n:=by
 intro m
 induction m with
 |zero=>intro a b n h1 _ _;simp[dZ];omega
 |succ m ih =>
  intro a b n h1 h2 h3;rw[dZ]
  cases n with
  |zero =>
   rcases h3 with h|h
   ·omega
   ·rw[ab (by simpa using h)]
  |succ n =>
   have h0:=h2 0 (by omega);rw[ax (by simpa using h0),ih (a+1) (b+1) n (by omega)]
   ·intro j hj;have:=h2 (j+1) (by omega)
    rwa [show a+(j+1)=a+1+j by omega,show b+(j+1)=b+1+j by omega]at this
   ·rcases h3 with h|h
    ·left;omega
    ·right
     rwa [show a+(n+1)=a+1+n by omega,show b+(n+1)=b+1+n by omega]at h
theorem CO(l:List UInt8):∀(m a b j:Nat),j<dZ l a b m->l[a+j]?=l[b+j]?:=by
 intro m
 induction m with
 |zero=>intro a b j h;simp[dZ]at h
 |succ m ih =>
  intro a b j h;rw[dZ]at h;split at h
  ·rename_i he
   cases j with
   |zero=>simpa using he
   |succ j =>
    have:=ih (a+1) (b+1) j (by omega)
    rwa [show a+(j+1)=a+1+j by omega,show b+(j+1)=b+1+j by omega]
  ·omega
end Go.Proofs.YtbjbjbpgmojcbacGreatDoor.Tk
namespace Go.Proofs.YtbjbjbpgmojcbacGreatDoor.Tk
open Ar Bk Cd Dk Im Tk Tr Vy
open Tryz
variable{s:ByteArray}{l:List UInt8}{a f m p:Nat}{b:Nat×Nat}
def Ya(l:List UInt8)(i:Nat):List UInt8:=(l.drop i).take 3
def Yp(l k:List UInt8)(r:Nat):List Nat:=(List.range r).filter (λp=>Ya l p==k)
theorem JN(l k:List UInt8)(r:Nat):Yp l k (r+1)=Yp l k r++(if Ya l r=k then [r] else []):=by
 unfold Yp;rw[List.range_succ,List.filter_append]
 congr 1
 by_cases h:Ya l r=k
 ·simp[h]
 ·simp[h]
theorem JO{k:List UInt8}{r:Nat}(h:p∈Yp l k r):p<r:=by
 unfold Yp at h;exact List.mem_range.1 (List.mem_filter.1 h).1
theorem JP(l k:List UInt8)(r:Nat):(Yp l k r).length<=r:=by
 unfold Yp;exact nt (List.length_filter_le _ _) (by simp)
def Wl(l:List UInt8)(a m:Nat)(b:Nat×Nat)(p:Nat):Nat×Nat:=if b.2<dZ l p a m then(a-p,dZ l p a m) else b
theorem JQ(h:m<=b.2)(p:Nat):Wl l a m b p=b:=by
 unfold Wl;have:=uy l m p a;rw[ab (by omega)]
theorem JR(h:m<=b.2):∀L:List Nat,L.foldl (Wl l a m) b=b:=by
 intro L
 induction L with
 |nil=>rfl
 |cons p L ih=>rw[List.foldl_cons,JQ h,ih]
theorem JS(l:List UInt8):∀(m a b n:Nat),n<=m->(∀j,j<n->l[a+j]?=l[b+j]?)->n<=dZ l a b m:=by
 intro m
 induction m with
 |zero=>intro a b n h _;omega
 |succ m ih =>
  intro a b n h hj
  cases n with
  |zero=>omega
  |succ n =>
   rw[dZ,ax (by simpa using hj 0 (by omega))]
   have:=ih (a+1) (b+1) n (by omega) (λj h2=>by
    have:=hj (j+1) (by omega)
    rwa [show a+(j+1)=a+1+j by omega,show b+(j+1)=b+1+j by omega]at this)
   omega
theorem uA(l:List UInt8)(i j:Nat):(Ya l i)[j]?=if j<3 then l[i+j]? else none:=by
 unfold Ya;rw[List.getElem?_take];split
 ·rw[List.getElem?_drop]
 ·rfl
theorem CQ(hm:3<=m):Ya l p=Ya l a↔3<=dZ l p a m:=by
 constructor
 ·intro h;refine JS l m p a 3 hm (λj hj=>?_);have h1:=uA l p j;have h2:=uA l a j;rw[ax hj]at h1 h2;rw[<-h1,<-h2,h]
 ·intro h;apply List.ext_getElem?;intro j;rw[uA,uA];split
  ·exact CO l m p a j (by omega)
  ·rfl
theorem JT(l:List UInt8)(a m:Nat)(hm:3<=m):∀(L:List Nat) (b b':Nat×Nat),((b.2<3/\b'=(0,0))\/(3<=b.2/\b'=b)) →
 (((L.foldl (Wl l a m) b).2<3/\(L.filter (λp=>Ya l p==Ya l a)).foldl (Wl l a m) b'=(0,0))\/(3<=(L.foldl (Wl l a m) b).2/\(L.filter (λp=>Ya l p==Ya l a)).foldl (Wl l a m) b'=L.foldl (Wl l a m) b)):=by
 intro L
 induction L with
 |nil=>intro b b' h;simpa using h
 |cons p L ih =>
  intro b b' h;rw[List.foldl_cons,List.filter_cons];by_cases hw:Ya l p=Ya l a
  ·have hk:=(CQ (l:=l) (p:=p) (a:=a) hm).1 hw;rw[ax (by simpa using hw),List.foldl_cons];apply ih;rcases h with⟨h1,rfl⟩|⟨h1,rfl⟩
   ·right
    unfold Wl;rw[ax (by omega),ax (by simp;omega)];exact⟨hk,rfl⟩
   ·right
    refine⟨?_,rfl⟩;unfold Wl;split
    ·exact hk
    ·exact h1
  ·have hk:¬3<=dZ l p a m:=λe=>hw ((CQ hm).2 e)
   rw[ab (by simpa using hw)];apply ih;rcases h with⟨h1,rfl⟩|⟨h1,rfl⟩
   ·left
    refine⟨?_,rfl⟩;unfold Wl;split
    ·show dZ l p a m<3;omega
    ·exact h1
   ·right
    unfold Wl;rw[ab (by omega)];exact⟨h1,rfl⟩
def Wz(l:List UInt8)(a:Nat):Nat:=min 64 (l.length-a)
def YJ(l:List UInt8)(a:Nat):Nat×Nat:=(List.range a).reverse.foldl (Wl l a (Wz l a)) (0,0)
def Yb(l:List UInt8)(a:Nat):Nat×Nat:=if Wz l a<3 then(0,0) else(Yp l (Ya l a) a).reverse.foldl (Wl l a (Wz l a)) (0,0)
theorem JU(l:List UInt8)(a m:Nat):∀(L:List Nat) (b:Nat×Nat),(∀p∈L,p<a)->b.2<=m->(b=(0,0)\/(1<=b.1/\b.1<=a/\1<=b.2/\b.2=dZ l (a-b.1) a m)) →
 (L.foldl (Wl l a m) b).2<=m/\(L.foldl (Wl l a m) b=(0,0)\/(1<=(L.foldl (Wl l a m) b).1/\(L.foldl (Wl l a m) b).1<=a/\1<=(L.foldl (Wl l a m) b).2/\(L.foldl (Wl l a m) b).2=dZ l (a-(L.foldl (Wl l a m) b).1) a m)):=by
 intro L
 induction L with
 |nil=>intro b _ h1 h2;exact⟨h1,h2⟩
 |cons p L ih =>
  intro b hL h1 h2;have hp:=hL p (by simp);rw[List.foldl_cons];apply ih _ (λq hq=>hL q (by simp[hq]))
  ·unfold Wl;split
   ·exact uy l m p a
   ·exact h1
  ·unfold Wl;split
   ·right
    rename_i h
    refine⟨by simp;omega,by simp,by simp;omega,?_⟩;show dZ l p a m=dZ l (a-(a-p)) a m;rw[show a-(a-p)=p by omega]
   ·exact h2
theorem Y0(l:List UInt8)(a:Nat):(YJ l a).2<=Wz l a/\(YJ l a=(0,0)\/(1<=(YJ l a).1/\(YJ l a).1<=a/\1<=(YJ l a).2/\(YJ l a).2=dZ l (a-(YJ l a).1) a (Wz l a))):=by
 unfold YJ;exact JU l a _ _ _ (λp hp=>by simpa using hp) (by simp) (Or.inl rfl)
theorem JV(l:List UInt8)(a:Nat):((YJ l a).2<3/\Yb l a=(0,0))\/(3<=(YJ l a).2/\Yb l a=YJ l a):=by
 have hb:=(Y0 l a).1;unfold Yb;by_cases h:Wz l a<3
 ·rw[ax h]
  left
  exact⟨by omega,rfl⟩
 ·rw[ab h];unfold Yp YJ;rw[<-List.filter_reverse];exact JT l a _ (by omega) _ _ _ (Or.inl ⟨by simp,rfl⟩)
def Wi(s:ByteArray)(f a:Nat):List T:=if f<a then [⟨s.extract f a,0,0⟩] else []
def jk(s:ByteArray):Nat->Nat->Nat->List T
 |0,a,f=>Wi s f a
 |n+1,a,f=>if a<s.size then(if(YJ s.data.toList a).2<3 then jk s n (a+1) f else Wi s f a++⟨⟨#[]⟩,((YJ s.data.toList a).1:Nat),((YJ s.data.toList a).2:Nat)⟩ :: jk s n (a+(YJ s.data.toList a).2) (a+(YJ s.data.toList a).2)) else Wi s f a
theorem JW(s:ByteArray):∀(n k a f:Nat),s.size-a<=n->s.size-a<=k->jk s n a f=jk s k a f:=by
 intro n
 induction n with
 |zero =>
  intro k a f h _
  cases k with
  |zero=>rfl
  |succ k=>rw[jk,jk,ab (by omega)]
 |succ n ih =>
  intro k a f h1 h2
  cases k with
  |zero=>rw[jk,jk,ab (by omega)]
  |succ k =>
   rw[jk,jk];by_cases ha:a<s.size
   ·rw[ax ha,ax ha];by_cases hb:(YJ s.data.toList a).2<3
    ·rw[ax hb,ax hb,ih k (a+1) f (by omega) (by omega)]
    ·rw[ab hb,ab hb,ih k _ _ (by omega) (by omega)]
   ·rw[ab ha,ab ha]
def P(s:ByteArray)(a f:Nat):List T:=jk s (s.size-a) a f
theorem xC(h:s.size<=a):P s a f=Wi s f a:=by
 unfold P;rw[show s.size-a=0 by omega,jk]
theorem YZ(h:a<s.size)(hb:(YJ s.data.toList a).2<3):P s a f=P s (a+1) f:=by
 unfold P;rw[show s.size-a=(s.size-(a+1))+1 by omega,jk,ax h,ax hb]
theorem xE(h:a<s.size)(hb:¬(YJ s.data.toList a).2<3):P s a f=Wi s f a++⟨⟨#[]⟩,((YJ s.data.toList a).1:Nat),((YJ s.data.toList a).2:Nat)⟩ :: P s (a+(YJ s.data.toList a).2) (a+(YJ s.data.toList a).2):=by
 unfold P;rw[show s.size-a=(s.size-(a+1))+1 by omega,jk,ax h,ab hb];rw[JW s (s.size-(a+1)) (s.size-(a+(YJ s.data.toList a).2)) _ _ (by omega) (by omega)]
end Go.Proofs.YtbjbjbpgmojcbacGreatDoor.Tk
namespace Go.Proofs.YtbjbjbpgmojcbacGreatDoor
open Ar Bk Cd Dk Im Tk Tr Vy
open Tryz
variable{s:ByteArray}{base bm gp r:Nat}{No:Nat->Prop}{w w':World}
open Go.RowKit Go.Maps Go.WideElems Go.ChangeShapes
open Go.WideMaps (keyOf_string_mk)
theorem jG:Keyed prog 9:=string_keyed underlying9
theorem oD(w:World):(zeroValue 213).run prog w=.ok (.slice none 0 0) w:=by kernel_rfl
theorem jH(k:ByteArray)(h:k.size<=maxLen):keyOf prog 9 (.string k)=some (.string k.data.toList):=keyOf_string_mk underlying9 h
def ru:DataW Value->List (DataW Value)
 |.slice es _=>es
 |_=>[]
def pR(D:DataW Value)(s:ByteArray)(r:Nat):Prop:=∀k:List UInt8,ru (D.atKey (.string k) .nil)=lits .i64 ((Yp s.data.toList k r).map (λp:Nat=>(p:Int)))
theorem CV:∀{a b:List Int} ,lits (H:=Value) .i64 a=lits .i64 b->a=b:=by
 intro a
 induction a with
 |nil=>intro b h;cases b with
  |nil=>rfl
  |cons x b=>simp[lits]at h
 |cons x a ih=>intro b h;cases b with
  |nil=>simp[lits]at h
  |cons y b =>
   simp only[lits,List.map_cons,List.cons.injEq,DataW.lit.injEq,Lit.int.injEq,true_and]at h;rw[h.1,ih (by unfold lits;exact h.2)]
theorem xF{v:Value}{zs:List Int}(h:w.ownsInts base 3 .i64 v zs):ru (rowDatum .i64 v zs)=lits .i64 zs:=by
 rcases h.datum (H:=Value) with⟨h1,rfl⟩|h1
 ·rw[h1];rfl
 ·rw[h1];rfl
theorem CX{P:Program}{k E t:TypeId}{b:Nat}{R:Value->Option (DataW Value×List MemPlace)}{es:Array MapEntry}{clock:Nat}{z key v:Value}{kl:Lit}(K:Keyed P k)(ht:P.underlying t=some (.map k E))
 (hz:(zeroValue E).run P w=.ok z w) (hz':(zeroValue E).run P w'=.ok z w') (hb:w.heap[b]?=some (.map es clock)) (hb':w'.heap[b]?=w.heap[b]?) (F:Fit P k R es clock) (hkey:keyOf P k key=some kl)
 (h:(Instr.lookup t (.map (some b)) key false).run P w=.ok v w):(Instr.lookup t (.map (some b)) key false).run P w'=.ok v w':=by
 have F0:Fit P k (λv=>some ((.held v:DataW Value),([]:List MemPlace))) es clock:=⟨F.size,F.stamped,λx hx=>by
  obtain⟨y,hy⟩:=F.reads x hx
  exact⟨(y.1,.held x.val),by simp[rd,rd_key hy]⟩⟩
 rw[hb]at hb';rcases fit_look false K ht hz hb F0 hkey with⟨r1,_,a1⟩|⟨e1,y1,_,_,r1,CY,a1,_⟩<;>rcases fit_look false K ht hz' hb' F0 hkey with⟨r2,_,a2⟩|⟨e2,y2,_,_,r2,CZ,a2,_⟩
 ·rw[r1]at h;rw[r2];simp at h |-
  exact h
 ·exfalso
  have:=(a1 .nil).symm.trans (a2 .nil);have h2:=(a1 (.agg [])).symm.trans (a2 (.agg []));rw[<-this]at h2
  cases h2
 ·exfalso
  have:=(a2 .nil).symm.trans (a1 .nil);have h2:=(a2 (.agg [])).symm.trans (a1 (.agg []));rw[<-this]at h2
  cases h2
 ·rw[r1]at h;rw[r2];simp at h CY CZ |-
  have:=(a1 .nil).symm.trans (a2 .nil);rw[<-CY,<-CZ]at this;simp at this;rw[<-this,h]
structure bC(w:World)(base gp bm:Nat)(No:Nat->Prop)(s:ByteArray)(r:Nat):Prop where
 c0:w.cell? ⟨gp,0,none⟩=some (.string s)
 c1:w.cell? ⟨gp,1,none⟩=some (.map (some bm))
 c2:w.cell? ⟨gp,2,none⟩=some (.int .i64 (r:Nat))
 f2:w.frozen? ⟨gp,2,none⟩=false
 gb:gp<base
 ne:gp≠bm
 bs:base<=w.heap.size
 map:∃D:DataW Value,IsMap D/\w.ownsGroups prog 9 base 3 .i64 bm r D/\w.Shuns bm No/\pR D s r
structure Keeps(w w':World)(base gp bm:Nat)(No:Nat->Prop):Prop where
 os:w'.os=w.os
 tape:w'.tape=w.tape
 output:w'.output=w.output
 size:w.heap.size<=w'.heap.size
 block:∀k,k<w.heap.size->k≠gp->k≠bm->(k<base\/No k)->w'.heap[k]?=w.heap[k]?
theorem Keeps.refl(w:World)(base gp bm:Nat)(No:Nat->Prop):Keeps w w base gp bm No:=⟨rfl,rfl,rfl,Nat.le_refl _,λ_ _ _ _ _=>rfl⟩
theorem Keeps.trans{a b c:World}(h:Keeps a b base gp bm No)(k:Keeps b c base gp bm No):Keeps a c base gp bm No :=
 ⟨k.os.trans h.os,k.tape.trans h.tape,k.output.trans h.output,nt h.size k.size,λi h1 h2 h3 h4=>(k.block i (nT h1 h.size) h2 h3 h4).trans (h.block i h1 h2 h3 h4)⟩
theorem bC.below(h:bC w base gp bm No s r)(hb:ae w w'):bC w' base gp bm No s r:=by
 obtain⟨D,hm,ho,hsh,hr⟩:=h.map
 have hg:w.grownBy w' none:=⟨hb.os,hb.tape,hb.output,hb.size,λk hk _=>hb.block k hk⟩
 have hlt:=nT h.gb h.bs;have hbm:bm<w.heap.size:=by obtain⟨es,clock,hb,_⟩:=ho;exact(aG.1 hb).1
 refine⟨?_,?_,?_,?_,h.gb,h.ne,nt h.bs hb.size,D,hm,ho.kept hg (by simp) (λes clock _ x _=>by cases x.val.ownBlock<;>simp),hsh.kept hg hbm (by simp),hr⟩
 ·rw[hb.cell (by exact hlt)];exact h.c0
 ·rw[hb.cell (by exact hlt)];exact h.c1
 ·rw[hb.cell (by exact hlt)];exact h.c2
 ·rw[hb.frozen (by exact hlt)];exact h.f2
theorem JX{D:DataW Value}(hm:IsMap D)(h:pR D s r){k:List UInt8}(hk:Ya s.data.toList r=k){d:DataW Value}{zs:List Int}(hz:ru (D.atKey (.string k) .nil)=lits .i64 zs)(hd:ru d=lits .i64 (zs++[(r:Int)])):pR (D.put (.string k) d) s (r+1):=by
 intro k';rw[Tk.JN];by_cases e:k'=k
 ·subst e;rw[atKey_put_same hm (k:=.string k') (by exact trivial),hd,ax hk];have:=CV ((h k').symm.trans hz);rw[List.map_append,this];rfl
 ·have e3:¬Ya s.data.toList r=k':=λe2=>e (e2.symm.trans hk)
  rw[atKey_put_other (by simp;exact e),h k',ab e3,List.append_nil]
theorem JY{k:ByteArray}(h:bC w base gp bm No s r)(hr:r<1000000)(hk:k.size<=maxLen)(hwin:Ya s.data.toList r=k.data.toList) :
 ∃(v:Value) (zs:List Int),(∀w',w'.heap[bm]?=w.heap[bm]?->(Instr.lookup 186 (.map (some bm)) (.string k) false).run prog w'=.ok v w')/\w.ownsRow base 3 1 v zs.length (zs.map (Value.int .i64))/\zs.length<=r ∧
  ∀w1 v',w.grownBy w1 v.ownBlock->w1.ownsRow base 3 1 v' (zs.length+1) (zs.map (Value.int .i64)++[.int .i64 (r:Nat)])->(v.ownBlock=v'.ownBlock\/∃g,v'.ownBlock=some g/\w.heap.size<=g/\¬No g) →
   ∃w2,(Instr.mapUpdate 186 (.map (some bm)) (.string k) v').run prog w1=.ok () w2/\w1.grownBy w2 (some bm) ∧
    (∃D:DataW Value,IsMap D/\w2.ownsGroups prog 9 base 3 .i64 bm (r+1) D/\w2.Shuns bm No/\pR D s (r+1))/\Keeps w w2 base bm bm No:=by
 obtain⟨D,hm,ho,hsh,hrd⟩:=h.map;have hbb:bm<base:=by obtain⟨_,_,_,_,_,_,hbb,_⟩:=ho;exact hbb
 have hr2:r<maxLen:=by unfold maxLen;omega
 obtain⟨v,zs,hrun,hat,hoi,hzl,hback⟩:=ho.at jG jC (oD w) hr2 (jH k hk)
 have hsv:∀g,v.ownBlock=some g->¬No g:=by
  obtain⟨es,clock,hb,F,_⟩:=ho;rcases fit_look false jG jC (oD w) hb F (jH k hk) with⟨hrun',_,_⟩|⟨e0,y,hm0,_,hrun',_,_,_⟩
  ·rw[hrun]at hrun';obtain rfl:v=.slice none 0 0:=by simpa using hrun'
   intro g hg'
   cases hg'
  ·rw[hrun]at hrun';obtain rfl:v=e0.val:=by simpa using hrun'
   exact λg hg'=>hsh es clock hb e0 hm0 g hg'
 refine⟨v,zs,λw' hw'=>?_,hoi.1,hzl,λw1 v' hg hown' hloc=>?_⟩
 ·obtain⟨es,clock,hb,F,_⟩:=ho;exact CX jG jC (oD w) (oD w') hb hw' F (jH k hk) hrun
 ·have hoi':=hoi.appended hown' (WalkArith.wf_i64 (by omega))
  have hloc':v'.ownBlock=v.ownBlock\/∃g,v'.ownBlock=some g/\w.heap.size<=g:=by
   rcases hloc with h1|⟨g,h1,h2,_⟩
   ·exact .inl h1.symm
   ·exact .inr ⟨g,h1,h2⟩
  obtain⟨w2,hrun2,ho2,hg2⟩:=hback w1 v' (zs++[(r:Int)]) hg hoi' (by simp;omega) hloc';refine⟨w2,hrun2,hg2,⟨_,hm.put _ _,ho2,?_,?_⟩,?_⟩
  ·obtain⟨es,clock,hb,F,hs,_,hbb,_⟩:=ho;have hblt:=(aG.1 hb).1;have hb1:=(hg.block bm hblt (λe1=>by have:=(hoi.1.lt bm e1.symm).1;omega)).trans hb;obtain⟨es',clock',hb2,hwho⟩:=stored_who jG jC hb1 F (Nat.lt_of_le_of_lt hs hr2) (jH k hk) hrun2;intro es2 clock2 hb2' y hy g hyg;obtain⟨rfl,rfl⟩:es'=es2/\clock'=clock2:=by rw[hb2]at hb2';simpa using hb2'
   rcases hwho y hy with⟨hy0,_⟩|⟨_,hval⟩
   ·exact hsh es clock hb y hy0 g hyg
   ·rw[hval]at hyg;rcases hloc with h1|⟨g1,h1,_,h3⟩
    ·exact hsv g (by rw[h1];exact hyg)
    ·rw[h1]at hyg
     cases hyg
     exact h3
  ·exact JX hm hrd hwin (by rw[hat];exact xF hoi) (xF hoi')
  ·refine⟨hg2.os.trans hg.os,hg2.tape.trans hg.tape,hg2.output.trans hg.output,nt hg.size hg2.size,λi h1 _ h3 h4=>?_⟩;rw[hg2.block i (Nat.lt_of_lt_of_le h1 hg.size) (by simp;exact h3)];refine hg.block i h1 (λe1=>?_);rcases h4 with h4|h4
   ·have:=(hoi.1.lt i e1.symm).1;omega
   ·exact hsv i e1.symm h4
theorem Keeps.wide(h:Keeps w w' base bm bm No)(gp:Nat):Keeps w w' base gp bm No:=⟨h.os,h.tape,h.output,h.size,λk h1 _ h3 h4=>h.block k h1 h3 h3 h4⟩
theorem Keeps.cell(h:Keeps w w' base gp bm No){p:Addr}(h1:p.block<w.heap.size)(h2:p.block≠gp)(h3:p.block≠bm)(h4:p.block<base\/No p.block):w'.cell? p=w.cell? p:=World.cell?_of_block (w:=w) (h.block p.block h1 h2 h3 h4)
theorem Keeps.frozen(h:Keeps w w' base gp bm No){p:Addr}(h1:p.block<w.heap.size)(h2:p.block≠gp)(h3:p.block≠bm)(h4:p.block<base\/No p.block):w'.frozen? p=w.frozen? p:=World.frozen?_of_block (w:=w) (h.block p.block h1 h2 h3 h4)
theorem Keeps.below{B:Nat}(h:Keeps w w' base gp bm No)(h1:B<=gp)(h2:B<=bm)(h3:B<=base)(h4:B<=w.heap.size):Below B w w' :=
 ⟨h.os,h.tape,h.output,h.size,λk hk=>h.block k (by omega) (by omega) (by omega) (.inl (by omega))⟩
theorem Keeps.of_below(h:ae w w'):Keeps w w' base gp bm No:=⟨h.os,h.tape,h.output,h.size,λk hk _ _ _=>h.block k hk⟩
theorem Keeps.setCell(h:Keeps w w' base gp bm No)(o:Nat)(u:Value):Keeps w (w'.setCell ⟨gp,o,none⟩ u) base gp bm No :=
 h.trans ⟨rfl,rfl,rfl,by simp,λk _ h2 _ _=>jB _ _ _ _ h2⟩
theorem JZ(c0:w.cell? ⟨gp,0,none⟩=some (.string s))(c1:w.cell? ⟨gp,1,none⟩=some (.map (some bm)))(c2:w.cell? ⟨gp,2,none⟩=some (.int .i64 (r:Nat)))(f2:w.frozen? ⟨gp,2,none⟩=false)
 (hgb:gp<base) (hne:gp≠bm) (hbs:base<=w.heap.size) (hmap:∃D:DataW Value,IsMap D/\w.ownsGroups prog 9 base 3 .i64 bm (r+1) D/\w.Shuns bm No/\pR D s (r+1)) :
 bC (w.setCell ⟨gp,2,none⟩ (.int .i64 ((r+1:Nat):Int))) base gp bm No s (r+1):=by
 obtain⟨D,hm,ho,hsh,hrd⟩:=hmap;have hlt:=nT hgb hbs;have hbm:bm<w.heap.size:=by obtain⟨es,clock,hb,_⟩:=ho;exact(aG.1 hb).1
 have hg:w.grownBy (w.setCell ⟨gp,2,none⟩ (.int .i64 ((r+1:Nat):Int))) (some gp):=⟨rfl,rfl,rfl,by simp,λk _ h2=>jB _ _ _ _ (λe=>h2 (by rw[e]))⟩
 refine⟨?_,?_,?_,?_,hgb,hne,by simpa using hbs,D,hm,ho.kept hg (by simp;exact λe=>hne e.symm) (ho.rowsAbove (λj hj=>by cases hj;exact hgb)),hsh.kept hg hbm (by simp;exact λe=>hne e.symm),hrd⟩
 ·exact(cO w ⟨gp,2,none⟩ ⟨gp,0,none⟩ _ (by simp)).trans c0
 ·exact(cO w ⟨gp,2,none⟩ ⟨gp,1,none⟩ _ (by simp)).trans c1
 ·exact cS w _ _ c2
 ·rw[World.frozen?_setCell];exact f2
end Go.Proofs.YtbjbjbpgmojcbacGreatDoor
