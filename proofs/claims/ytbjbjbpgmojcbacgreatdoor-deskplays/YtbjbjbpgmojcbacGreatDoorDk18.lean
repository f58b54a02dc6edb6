/- A part of the proof: what it leans on. -/
import Derived.Test.YtbjbjbpgmojcbacGreatDoorDk17
set_option maxRecDepth 4000
set_option maxHeartbeats 4000000
namespace Go.Proofs.YtbjbjbpgmojcbacGreatDoor
open Ar Bk Cd Dk Im Tk Tr Vy
open Tryz
variable{N base g j k n:Nat}{L:Nat->Int}{ta:Tr}{t:TypeId}{v:Value}{w:World}
open Go.RowKit
theorem Ie{ops:Array Oper}{rest:List Oper}{o:Oper}{a:Act}{Q:Exit->Act->World->Prop}(hg:o.guard=none)(x:Operand)(ho:o.op=.build 239 #[(1,x)])(c:Int)(hx:a.eval x=.int .i64 c)
 (h:wpList prog ops Q rest (a.put o.dst (.agg (aN ⟨λ_=>false,c⟩))) w):wpList prog ops Q (o :: rest) a w:=by
 have hb:prog.built 239 [(1,.int .i64 c)]=some (aN ⟨λ_=>false,c⟩):=by kernel_rfl
 have he:((#[(1,x)]:Array (Nat×Operand)).map λ(i,x)=>(i,a.eval x)).toList=[(1,.int .i64 c)]:=by
  simp only[List.map_toArray,List.map_cons,List.map_nil,hx]
 refine wpList_build hg 239 _ ho ?_ ?_
 ·rw[he,hb];rfl
 ·rw[he,hb];exact h
def Tr.set(t:Tr)(k:Nat)(b:Bool):Tr:=⟨λj=>if j=k then b else t.h j,t.w⟩
theorem If(t:Tr)(k:Nat)(hk:k<16)(b:Bool):(aN t).setIfInBounds k (.bool b)=aN (t.set k b):=by
 apply Array.ext_getElem?;intro i;rw[Array.getElem?_setIfInBounds,km];by_cases hi:i<16
 ·rw[ym _ i hi,ym _ i hi];by_cases e:k=i
  ·subst e;rw[ax rfl,ax (by omega)];simp[Tr.set]
  ·rw[ab e];have e':¬i=k:=λh=>e h.symm
   simp[Tr.set,e']
 ·rw[ab (by omega)];by_cases h16:i=16
  ·subst h16;rw[yn,yn];rfl
  ·rw[Array.getElem?_eq_none (by rw[km];omega),Array.getElem?_eq_none (by rw[km];omega)]
theorem aP.set{t:Tr}(H:aP w g t)(k:Nat)(hk:k<16)(b:Bool):aP (w.setCell ⟨g,k,none⟩ (.bool b)) g (t.set k b):=by
 refine⟨by have:=H.1;simpa[World.setCell]using this,?_⟩;rw[rH H.2,If t k hk]
theorem aP.aq{t:Tr}(H:aP w g t){q:Nat}(hq:q≠g)(k:Nat)(v:Value):aP (w.setCell ⟨q,k,none⟩ v) g t:=by
 refine⟨by have:=H.1;simpa[World.setCell]using this,?_⟩;rw[rI hq];exact H.2
theorem aP.congr{s t:Tr}(H:aP w g s)(h:∀i,i<16->s.h i=t.h i)(hw:s.w=t.w):aP w g t:=⟨H.1,by rw[H.2,DI h hw]⟩
theorem ai.block{w':World}{f:Nat->Int}(H:ai w g f)(he:w'.heap[g]?=w.heap[g]?):ai w' g f:=by
 have h2:=he.trans H.2;exact⟨(aG.1 h2).1,h2⟩
theorem tI{x:Value}{sz:Nat}{cs:List Value}(ho:w.ownsRow base t sz v n cs)(hne:v.ownBlock≠some g):(w.setCell ⟨g,k,none⟩ x).ownsRow base t sz v n cs:=by
 refine⟨ho.1,?_⟩;rcases ho.2 with h0|⟨q,cap,cur,rfl,e1,e2,e3⟩
 ·exact .inl h0
 ·refine .inr ⟨q,cap,cur,rfl,e1,?_,e3⟩;rw[rI (λe=>hne (by rw[e];rfl))];exact e2
theorem AR{a b:Nat->Bool}{x:Bool}{W:Int}(h:x=(a k||b k)):(Tr.set ⟨λj=>decide (j<k)&&(a j||b j),W⟩ k x).h j=(decide (j<k+1)&&(a j||b j)):=by
 simp only[Tr.set];by_cases e:j=k
 ·subst e;rw[ax rfl,h];simp
 ·rw[ab e];by_cases h1:j<k
  ·simp[h1,show j<k+1 by omega]
  ·simp[h1,show ¬j<k+1 by omega]
theorem Ig{tb:Tr}(h:(ta.h k||tb.h k)=true):upd (λj=>if j<k then Xb (WA ta tb) L j else L j) k (L k+1) j=if j<k+1 then Xb (WA ta tb) L j else L j:=by
 unfold upd;by_cases e:j=k
 ·subst e;rw[ax rfl,ax (by omega),Xb,ax (by simpa[WA]using h)]
 ·rw[ab e];simp only;by_cases h1:j<k
  ·rw[ax h1,ax (by omega)]
  ·rw[ab h1,ab (by omega)]
theorem SC{tb:Tr}(h:(ta.h k||tb.h k)=false):(if j<k then Xb (WA ta tb) L j else L j)=if j<k+1 then Xb (WA ta tb) L j else L j:=by
 by_cases e:j=k
 ·subst e;rw[ab (by omega),ax (by omega),Xb,ab (by simp only[WA,h];simp)]
 ·by_cases h1:j<k
  ·rw[ax h1,ax (by omega)]
  ·rw[ab h1,ab (by omega)]
theorem SD(h:w.heap.size=N)(c c':Array Value)(t:TypeId):(w.alloc (.cells c t)).setRow N c'=w.alloc (.cells c' t):=by subst h;exact World.setRow_alloc_new w c c' t
theorem SE(h:w.heap.size=N)(o:Obj):(w.alloc o).heap[N]?=some o:=by subst h;exact heap_alloc_last w o
theorem aP.AS(h:w.heap.size=N)(t:Tr):aP (w.alloc (.cells (aN t) 239)) N t:=by subst h;exact aP.new w t
theorem AT{sz:Nat}{cs:List Value}(ho:w.ownsRow base t sz v n cs):∃ad cap,v=.slice ad n cap:=by
 rcases ho.2 with⟨h,h0⟩|⟨q,cap,cur,h,_⟩
 ·exact⟨none,0,by rw[h,h0]⟩
 ·exact⟨_,cap,h⟩
theorem SF{base':Nat}{sz:Nat}{cs:List Value}(ho:w.ownsRow base' t sz v n cs)(h:base<=base'):w.ownsRow base t sz v n cs:=by
 refine⟨ho.1,?_⟩;rcases ho.2 with h0|⟨q,cap,cur,rfl,e1,e2,e3⟩
 ·exact .inl h0
 ·exact .inr ⟨q,cap,cur,rfl,by omega,e2,e3⟩
theorem SG(c:Nat->Int)(w:World)(h1:¬Wk c 2048 16) :
 CB 205 #[.agg (arr c)] w (.tuple #[.agg (arr (λ_=>0)),.int .i64 3]):=by
 have hcn:=λw=>Cs c w
 rw[decide_eq_false h1]at hcn;have hin:=Zh c;have hz:=Zh (λ_=>0);obtain⟨R1,R2,R4,HB⟩:=rl w c (λ_=>0);rw[<-Zs]at R1 R2 R4 HB;clear h1;go_enter func205,ntmps205
 go_wp2_with (refine wpList_load_row rfl 142 _ rfl w.heap.size rfl 142 (arr c) (0,0) _ R1.2 aF rfl hin ?_)
 refine mo (hcn _) λw1 G1=>?_
 have S2:=R2.below G1;have S4:=R4.below G1;have B1:=ag HB G1;clear R1 R2 R4 HB G1 hcn;go_wp2_with (first|refine wpList_load_row rfl 142 _ rfl (w.heap.size+1+1) rfl 142 (arr λ_=>0) (0,0) _ S4.2 aF rfl hz ?_|refine wpList_store_row rfl 142 _ _ rfl (w.heap.size+1) (arr λ_=>0) rfl rfl 142 _ S2.2 hz rfl (bj _) ?_)
 have U2:=S2.setRow (λ_=>0);exact bodyPost_ret (v:=.tuple #[.agg (arr λ_=>0),.int .i64 3]) (ZU results205 _ _ (w.heap.size+1) 142 _ (0,0) _ rfl U2.2 aF rfl hz _ rfl) rfl ⟨rfl,Zu B1 (Nat.le_succ _) _⟩
theorem SH(c:Nat->Int)(w:World)(h1:Wk c 2048 16) :
 CB 205 #[.agg (arr c)] w (.tuple #[.agg (arr (VH c).1),.int .i64 (VH c).2]):=by
 have hcn:=λw=>Cs c w
 rw[decide_eq_true h1]at hcn;have hin:=Zh c;have hz:=Zh (λ_=>0);have HR:=Za h1
 obtain⟨r1,r2,hr⟩:∃r1 r2,VH c=(r1,r2):=⟨_,_,rfl⟩
 rw[hr];have Hr:=Za hr;obtain⟨R1,R2,R4,HB⟩:=rl w c (λ_=>0);rw[<-Zs]at R1 R2 R4 HB;clear h1 hr;go_enter func205,ntmps205
 go_wp2_with (refine wpList_load_row rfl 142 _ rfl w.heap.size rfl 142 (arr c) (0,0) _ R1.2 aF rfl hin ?_)
 refine mo (hcn _) λw1 G1=>?_
 have S1:=R1.below G1;have S2:=R2.below G1;have S4:=R4.below G1;have B1:=ag HB G1;clear R1 R2 R4 HB G1 hcn;have hq:Hid (w.heap.size<w.heap.size+1/\w.heap.size+1<w.heap.size+1+1):=by show _/\_;omega
 generalize w.heap.size+1+1=g4 at*;generalize w.heap.size+1=g2 at*;go_wp2_with fail
 go_loopw [5,6] (λv i wr=>∃k:Nat,k<=16/\i=.int .i64 k/\wr.ownsRow (g4+1) 239 17 v ((dw c k).map (WZ c λi=>i)).length (flat ((dw c k).map (WZ c λi=>i)))/\ai wr w.heap.size c/\ai wr g2 (λ_=>0)/\ai wr g4 (λ_=>0)/\ae w wr) (λ_ i _=>20-(intOf i).toNat)
 case atStart=>exact⟨0,by omega,rfl,World.ownsRow_nil _ _ _ _,S1,S2,S4,B1⟩
 case round =>
  clear S1 S2 S4 B1;obtain⟨k,hk,rfl,ho,S1,S2,S4,B1⟩:=hrel;have hl0:=Hu c k;by_cases hlt:k<16
  ·have hk1:=al (by omega:(k:Int)<16);have hk2:=al (by omega:k<16);have hk3:(k:Int)<16:=by omega
   have c1:=S1.cell k hlt;by_cases hc:0<c k
   ·have d1:decide (0<c k)=true:=by simpa using hc
    have HE:Hid ((dw c (k+1)).map (WZ c λi=>i)=(dw c k).map (WZ c λi=>i)++[WZ c (λi=>i) k]):=by show _=_;rw[dw,ax hc,List.map_append];rfl
    have hll:((dw c k).map (WZ c λi=>i)).length<=16:=by rw[List.length_map];omega
    have HT:Hid (aN (Tr.set ⟨λ_=>false,c k⟩ k true)=aN (WZ c (λi=>i) k)):=DI (λi _=>by
     simp only[Tr.set,WZ];by_cases e:i=k
     ·subst e;simp
     ·have:¬(i:Int)=(k:Int):=by omega
      simp[e,this]) rfl
    have T1:=aP.new wr ⟨λ_=>false,c k⟩;have hi1:=kn ⟨λ_=>false,c k⟩;have hi2:=kn (Tr.set ⟨λ_=>false,c k⟩ k true);have SI:=λo=>ho.alloc o
    have hA:=λo=>B1.alloc B1.size o
    have cT:=T1.cE k hlt;have fT:=T1.frozen k;clear T1;generalize (dw c k).map (WZ c λi=>i)=l at*;generalize c k=ck at*;have T2:Hid ((wr.alloc (.cells ((aN ⟨λ_=>false,ck⟩).setIfInBounds k (.bool true)) 239)).heap[wr.heap.size]?=some (.cells (aN (Tr.set ⟨λ_=>false,ck⟩ k true)) 239 (0,0))):=by show _=_;rw[If _ _ hlt];exact heap_alloc_last wr _
    have hg4:=S4.1;go_wp2_with (first|refine wpList_load_row rfl 239 _ rfl wr.heap.size rfl 239 (aN (Tr.set ⟨λ_=>false,ck⟩ k true)) (0,0) _ T2.out ig rfl hi2 ?_|refine AJ rfl _ rfl (Tr.set ⟨λ_=>false,ck⟩ k true) rfl ?_|(at_builtin;go_must (refine AK rfl _ _ rfl (g4+1) _ l rfl (SI _) (Tr.set ⟨λ_=>false,ck⟩ k true) rfl (by omega) (by simp;omega) ?_;intro v' w6 hown' hgrow))|refine Ie rfl _ rfl ck rfl ?_|(refine wpList_store_row rfl 239 _ _ rfl wr.heap.size (aN ⟨λ_=>false,ck⟩) rfl rfl 239 _ (heap_alloc_last wr _) hi1 rfl (pZ _) ?_;rw[World.setRow_alloc_new]))
    have hne:∀q,q<=g4->some q≠Value.ownBlock u5:=λq SJ e=>by have:=(ho.lt q e.symm).1;omega
    have hqq:=hq.out;have bg:=λq (h:q<=g4)=>tH (w:=wr.alloc (.cells ((aN ⟨λ_=>false,ck⟩).setIfInBounds k (.bool true)) 239)) (g:=q) (by simp;omega) (hne q h) hgrow
    have U1:=(S1.alloc (.cells ((aN ⟨λ_=>false,ck⟩).setIfInBounds k (.bool true)) 239)).block (bg _ (by omega));have U2:=(S2.alloc (.cells ((aN ⟨λ_=>false,ck⟩).setIfInBounds k (.bool true)) 239)).block (bg _ (by omega));have U4:=(S4.alloc (.cells ((aN ⟨λ_=>false,ck⟩).setIfInBounds k (.bool true)) 239)).block (bg _ (nl _));have B6:=((hA _).alloc (hA _).size _).grown hgrow (by have:=B1.size;simp;omega) (λj hj=>by have:=(ho.lt j hj).1;omega);refine⟨⟨k+1,by omega,by go_num,?_,U1,U2,U4,B6⟩,by simp[intOf];omega⟩;rw[HE.out,qB,v8,<-HT.out,<-v8,<-qB,List.length_append];rw[List.length_append]at hown';exact hown'
   ·have d1:decide (0<c k)=false:=by simpa using hc
    have HE:Hid (dw c (k+1)=dw c k):=by show _=_;rw[dw,ab hc]
    clear hc;generalize c k=ck at*;go_wp2_with fail
    exact⟨⟨k+1,by omega,by go_num,by rw[HE.out];exact ho,S1,S2,S4,B1⟩,by simp[intOf];omega⟩
  ·obtain rfl:k=16:=by omega
   obtain⟨q0,q1,q2⟩:=Cd.Sx HR.out;have HF:=Za (Sz HR.out);have hl1:=ho.1;rw[di]at hl1;clear S1 hl0 hin;rcases hcs:dw c 16 with _|⟨r,_|⟨r',rr⟩⟩
   ·have h8:=Hr.out.symm.trans (q0 hcs);simp only[Prod.mk.injEq]at h8;obtain⟨rfl,rfl⟩:=h8;rw[hcs]at ho;obtain⟨ad,cap,hv⟩:=AT ho;subst hv;clear hcs q0 q1 q2 hl1 HF;go_wp2_with (first|refine wpList_load_row rfl 142 _ rfl g4 rfl 142 (arr λ_=>0) (0,0) _ S4.2 aF rfl hz ?_|refine wpList_store_row rfl 142 _ _ rfl g2 (arr λ_=>0) rfl rfl 142 _ S2.2 hz rfl (bj _) ?_)
    have U2:=S2.setRow (λ_=>0);exact bodyPost_ret (v:=.tuple #[.agg (arr λ_=>0),.int .i64 5]) (ZU results205 _ _ g2 142 _ (0,0) _ rfl U2.2 aF rfl hz _ rfl) rfl ⟨rfl,Zu B1 (nL hq.out.1) _⟩
   ·have h8:=Hr.out.symm.trans (q1 r hcs);simp only[Prod.mk.injEq]at h8;obtain⟨rfl,rfl⟩:=h8;have AU:=((Cd.lv c 16 r).1 (by rw[hcs];simp)).1;have tJ:=(Hw (c:=c) (λi hi=>(HR.out i hi).1)).ls (r:=r) (by rw[hcs];simp);rw[hcs]at ho;obtain⟨g,cap,hv,hg,hgl,hrg⟩:=AH ho (by simp);subst hv;have rt:=tG hrg (i:=0) (by simp);have hls:=λw=>yo (WZ c (λi=>i) r) w
    rw[tJ]at hls;have htl:tl (List.map (WZ c λi=>i) [r]) 0=WZ c (λi=>i) r:=rfl;rw[htl]at rt;have hi1:=Zh (upd (λ_=>0) r 1);generalize WZ c (λi=>i) r=t at*;have Vu:(r:Int)<16:=by omega
    clear hcs q0 q1 q2 hl1 HF tJ htl;go_wp2_with (first|refine AI rfl _ rfl g (0*17) rfl t rt ?_)
    refine mo (hls _) λw2 G2=>?_
    have V2:=S2.below G2;have V4:=S4.below G2;have B2:=ag B1 G2;have c4:=V4.cell r AU;have f4:=V4.frozen r;have X4:=V4.set r 1;have X2:=V2.aq (q:=g4) (by have:=hq.out;omega) r (.int .i64 1);have B3:=B2.setCell (p:=⟨g4,r,none⟩) (by have:=hq.out;show _<=g4;omega) (.int .i64 1);clear S2 S4 B1 G2 V2 V4 B2;go_wp2_with (first|refine wpList_load_row rfl 142 _ rfl g4 rfl 142 (arr (upd (λ_=>0) r 1)) (0,0) _ X4.2 aF rfl hi1 ?_|refine wpList_store_row rfl 142 _ _ rfl g2 (arr (upd (λ_=>0) r 1)) rfl rfl 142 _ X2.2 hi1 (by rw[Zo,Zo]) (bj _) ?_)
    have U2:=X2.setRow (upd (λ_=>0) r 1);exact bodyPost_ret (v:=.tuple #[.agg (arr (upd (λ_=>0) r 1)),.int .i64 0]) (ZU results205 _ _ g2 142 _ (0,0) _ rfl U2.2 aF rfl hi1 _ rfl) rfl ⟨rfl,Zu B3 (nL hq.out.1) _⟩
   ·have h8:=Hr.out.symm.trans (q2 (by rw[hcs];simp));simp only[Prod.mk.injEq]at h8;obtain⟨h8,rfl⟩:=h8;have wh:=Za h8.symm;have hlen2:2<=((dw c 16).map (WZ c λi=>i)).length:=by rw[List.length_map,hcs];simp
    have eN:=HF.out.len;clear hcs q0 q1 q2 hl1 h8;generalize (dw c 16).map (WZ c λi=>i)=l0 at*;obtain⟨ad,cap,hv⟩:=AT ho;subst hv;have e0:((l0.length:Int)==0)=false:=by rw[beq_eq_false_iff_ne];omega
    have e1:((l0.length:Int)==1)=false:=by rw[beq_eq_false_iff_ne];omega
    go_wp2_with fail
    clear e0 e1;have lx:=Za eN;go_loopg [5] 16 (λn v wr=>∃(l:List Tr) (L:Nat->Int),wr.ownsRow (g4+1) 239 17 v l.length (flat l)/\ai wr g2 (λ_=>0)/\ai wr g4 L/\ae w wr/\Hid (Cd.Fine l L/\l.length<=n/\lV n l L=r1))
    case atStart=>exact⟨l0,λ_=>0,ho,S2,S4,B1,HF.out,lx.out,wh.out⟩
    case round =>
     clear ho S2 S4 B1 HF wh lx hlen2 eN;obtain⟨l,L,ho,S2,S4,B1,HH⟩:=hrel;by_cases hl:l.length<=1
     ·have hL:L=r1:=by
       have:=HH.out.2.2
       cases gk with
       |zero=>rwa [lV]at this
       |succ n=>rwa [lV,ax hl]at this
      subst hL;obtain⟨ad,cap,hv⟩:=AT ho;subst hv;have d1:=dF (by omega:¬((1:Int)<(l.length:Int)));have d1':=dF (by omega:¬(1<l.length));have hi1:=Zh L;clear hl HH;go_wp2_with (first|refine wpList_load_row rfl 142 _ rfl g4 rfl 142 (arr L) (0,0) _ S4.2 aF rfl hi1 ?_|refine wpList_store_row rfl 142 _ _ rfl g2 (arr L) rfl rfl 142 _ S2.2 hi1 (by rw[Zo,Zo]) (bj _) ?_)
      have U2:=S2.setRow L;exact bodyPost_ret (v:=.tuple #[.agg (arr L),.int .i64 0]) (ZU results205 _ _ g2 142 _ (0,0) _ rfl U2.2 aF rfl hi1 _ rfl) rfl ⟨rfl,Zu B1 (nL hq.out.1) _⟩
     ·obtain⟨f1,f2,f3,f4,f5,F6⟩:=HH.out.1.two (by omega);have AV:=HH.out.1.len
      obtain⟨n,hn⟩:∃n,gk=n+1:=⟨gk-1,by have:=HH.out.2.1;omega⟩
      subst hn
      have wh:Hid (lV n (cu (cu l)++[WA (XC l) (XC (cu l))]) (Xb (WA (XC l) (XC (cu l))) L)=r1):=by
       have:=HH.out.2.2
       rwa [lV,ab hl]at this
      have HF6:=Za F6
      have HLn:Hid ((cu (cu l)++[WA (XC l) (XC (cu l))]).length<=n):=by
       have:=HH.out.2.1;show _<=_;rw[List.length_append,List.length_singleton];omega
      have tK:Hid (∀i,0<=L i/\L i<=16):=λi=>by have:=HH.out.1.low i;omega
      obtain⟨g,cap,hv,hg,hgl,hrg⟩:=AH ho (by intro e;rw[e]at hl;simp at hl);subst hv;have d1:=al (by omega:(1:Int)<(l.length:Int));have d1':=al (by omega:1<l.length);have t1:Calls prog 234 #[.slice (some ⟨g,0,none⟩) l.length cap] wr λe w'=>∃v,e=.returned (.tuple #[.agg (aN (XC l)),v])/\ae wr w'/\w'.ownsRow wr.heap.size 239 17 v (cu l).length (flat (cu l)):=Hb l g cap wr (by omega) AV hgl hrg
      have t2:∀g cap w,g<w.heap.size->w.rangeAt g 0 (flat (cu l))->Calls prog 234 #[.slice (some ⟨g,0,none⟩) (cu l).length cap] w λe w'=>∃v,e=.returned (.tuple #[.agg (aN (XC (cu l))),v])/\ae w w'/\w'.ownsRow w.heap.size 239 17 v (cu (cu l)).length (flat (cu (cu l))):=λg cap w h1 h2=>Hb (cu l) g cap w (by omega) (by omega) h1 h2
      have hne1:Hid (cu l ≠ []):=by intro e;rw[e]at f4;simp at f4;omega
      have SK:Hid ((cu (cu l)).length<=16):=by show _<=_;omega
      generalize cu (cu l)=l2 at*;generalize XC (cu l)=tb at*;generalize cu l=l1 at*;generalize XC l=ta at*;clear HH F6 hl f4 f5 ho hrg hg;go_wp2_with fail
      refine t1.mono ?_;rintro e w2 ⟨v1,rfl,G2,O2⟩;have V2:=S2.below G2;have V4:=S4.below G2;have B2:=ag B1 G2;obtain⟨g1,cap1,hv,hg1,tL,hrg1⟩:=AH O2 hne1.out;subst hv;have hia:=kn ta;have X2:=V2.alloc (.cells (aN ta) 239);have X4:=V4.alloc (.cells (aN ta) 239);have A1:=aP.new w2 ta;have B3:ae w (w2.alloc (.cells (aN ta) 239)):=B2.alloc B2.size _;have hrg2:=AG hrg1 ((bR w2.heap.size w2).alloc (nl _) (.cells (aN ta) 239)) tL;have AW:w2.heap.size+1=(w2.alloc (.cells (aN ta) 239)).heap.size:=by simp
      have HS2:Hid (g4<w2.heap.size/\w2.heap.size<(w2.alloc (.cells (aN ta) 239)).heap.size/\g1<(w2.alloc (.cells (aN ta) 239)).heap.size):=by have:=V4.1;show _/\_/\_;omega
      clear t1 S2 S4 B1 G2 V2 V4 B2 O2 hrg1 hg1 tL hgl AW;go_wp2_with (refine wpList_store_row rfl 239 _ _ rfl w2.heap.size (aN ta) rfl rfl 239 _ (heap_alloc_last w2 _) hia rfl (pZ _) ?_;rw[World.setRow_alloc_new])
      generalize w2.alloc (.cells (aN ta) 239)=wa at*;generalize w2.heap.size=ga at*;refine(t2 _ _ _ HS2.out.2.2 hrg2).mono ?_;rintro e w3 ⟨v2,rfl,G3,O3⟩;have Y2:=X2.below G3;have Y4:=X4.below G3;have A2:=A1.below G3;have B4:=ag B3 G3
      have wj:Hid (g4<ga/\ga<w3.heap.size/\(∀q,v2.ownBlock=some q->ga<q/\q<w3.heap.size)):=by
       refine⟨HS2.out.1,A2.1,λq e=>?_⟩;have h1:=O3.lt q e;have h2:=HS2.out.2.1;exact⟨by omega,h1.2⟩
      have hs1:(w3.alloc (.cells (aN tb) 239)).heap.size=w3.heap.size+1:=by simp
      have hib:=kn tb;have hit:=kn ⟨λ_=>false,ta.w+tb.w⟩;have ca:=(A2.alloc (.cells (aN tb) 239)).jl;have cb:=(aP.new w3 tb).jl;have Z2:=(Y2.alloc (.cells (aN tb) 239)).alloc (.cells (aN ⟨λ_=>false,ta.w+tb.w⟩) 239);have Z4:=(Y4.alloc (.cells (aN tb) 239)).alloc (.cells (aN ⟨λ_=>false,ta.w+tb.w⟩) 239);have ZA:=(A2.alloc (.cells (aN tb) 239)).alloc (.cells (aN ⟨λ_=>false,ta.w+tb.w⟩) 239);have ZB:=(aP.new w3 tb).alloc (.cells (aN ⟨λ_=>false,ta.w+tb.w⟩) 239);have ZT:=aP.AS (w:=(w3.alloc (.cells (aN tb) 239))) hs1 ⟨λ_=>false,ta.w+tb.w⟩;have ZO:=SF (base:=g4+1) ((O3.alloc (.cells (aN tb) 239)).alloc (.cells (aN ⟨λ_=>false,ta.w+tb.w⟩) 239)) (by have:=HS2.out;omega);have B5:ae w ((w3.alloc (.cells (aN tb) 239)).alloc (.cells (aN ⟨λ_=>false,ta.w+tb.w⟩) 239)):=(B4.alloc B4.size _).alloc (by have:=B4.size;simp;omega) _;have AX:=Za hs1;clear hs1 X2 X4 A1 B3 t2 hrg2 G3 O3 Y2 Y4 A2 B4;go_wp2_with (first|(refine wpList_store_row rfl 239 _ _ rfl w3.heap.size (aN tb) rfl rfl 239 _ (heap_alloc_last w3 _) hib rfl (pZ _) ?_;rw[World.setRow_alloc_new])|refine Ie rfl _ rfl (ta.w+tb.w) rfl ?_|(refine wpList_store_row rfl 239 _ _ rfl (w3.heap.size+1) (aN ⟨λ_=>false,ta.w+tb.w⟩) rfl rfl 239 _ (SE AX.out _) hit rfl (pZ _) ?_;rw[SD AX.out]))
      generalize ((w3.alloc (.cells (aN tb) 239)).alloc (.cells (aN ⟨λ_=>false,ta.w+tb.w⟩) 239))=wc at*
      have HG:Hid (g4<ga/\ga<w3.heap.size/\w3.heap.size<w3.heap.size+1/\(∀q,v2.ownBlock=some q->ga<q/\q<w3.heap.size)):=⟨wj.out.1,wj.out.2.1,by omega,wj.out.2.2⟩
      generalize w3.heap.size+1=gt at*;generalize w3.heap.size=gb at*;clear ca cb wj HS2 hne1 AX hib hit hia d1 d1';have Ih:=ZT.congr (t:=⟨λj=>decide (j<0)&&(ta.h j||tb.h j),ta.w+tb.w⟩) (λj _=>by simp) rfl;have Ii:=Z4.congr (f':=λj=>if j<0 then Xb (WA ta tb) L j else L j) (λj _=>by simp);go_loopw [12] (λi wr=>∃k:Nat,k<=16/\i=.int .i64 k/\aP wr ga ta/\aP wr gb tb/\aP wr gt ⟨λj=>decide (j<k)&&(ta.h j||tb.h j),ta.w+tb.w⟩/\ai wr g4 (λj=>if j<k then Xb (WA ta tb) L j else L j)/\ai wr g2 (λ_=>0)/\wr.ownsRow (g4+1) 239 17 v2 l2.length (flat l2)/\ae w wr) (λi _=>16-(intOf i).toNat)
      case atStart=>exact⟨0,by omega,rfl,ZA,ZB,Ih,Ii,Z2,ZO,B5⟩
      case round =>
       clear ZA ZB ZT Ih Z4 Ii Z2 ZO B5;obtain⟨k,hk,rfl,TA,TB,TT,S4,S2,hO,Bl⟩:=hrel;by_cases hlt:k<16
       ·have hk1:=al (by omega:(k:Int)<16);have hk2:=al (by omega:k<16);have hk3:(k:Int)<16:=by omega
        have ca:=TA.cE k hlt;have cb:=TB.cE k hlt;have ct:=TT.cE k hlt;have ft:=TT.frozen k
        cases ha:ta.h k with
        |true =>
         have hm:(ta.h k||tb.h k)=true:=by rw[ha];rfl
         rw[ha]at ca;clear ha;have cg:(wr.setCell ⟨gt,k,none⟩ (.bool true)).cell? ⟨g4,k,none⟩=some (.int .i64 (L k)):=by rw[(S4.aq (q:=gt) (by have:=HG.out;omega) k (.bool true)).cell k hlt];simp
         have fg:=(S4.aq (q:=gt) (by have:=HG.out;omega) k (.bool true)).frozen k;have oe:=tK.out k;have hL0:=oe.1;have hL1:=oe.2;have P2:=(S2.aq (q:=gt) (by have:=HG.out;have:=hq.out;omega) k (.bool true)).aq (q:=g4) (by have:=hq.out;omega) k (.int .i64 (L k+1));have P4:=((S4.aq (q:=gt) (by have:=HG.out;omega) k (.bool true)).set k (L k+1)).congr (f':=λj=>if j<k+1 then Xb (WA ta tb) L j else L j) (λj _=>Ig hm);have PA:=(TA.aq (q:=gt) (by have:=HG.out;omega) k (.bool true)).aq (q:=g4) (by have:=HG.out;omega) k (.int .i64 (L k+1));have PB:=(TB.aq (q:=gt) (by have:=HG.out;omega) k (.bool true)).aq (q:=g4) (by have:=HG.out;omega) k (.int .i64 (L k+1));have PT:=((TT.set k hlt true).aq (q:=g4) (by have:=HG.out;omega) k (.int .i64 (L k+1))).congr (t:=⟨λj=>decide (j<k+1)&&(ta.h j||tb.h j),ta.w+tb.w⟩) (λj _=>AR hm.symm) rfl;have PO:=tI (k:=k) (x:=.int .i64 (L k+1)) (tI (g:=gt) (k:=k) (x:=.bool true) hO (λe=>by have:=HG.out.2.2.2 _ e;have:=HG.out;omega)) (g:=g4) (λe=>by have:=HG.out.2.2.2 _ e;have:=HG.out;omega);have tM:=(Bl.setCell (p:=⟨gt,k,none⟩) (by have:=HG.out;have:=hq.out;show _<=gt;omega) (.bool true)).setCell (p:=⟨g4,k,none⟩) (by have:=hq.out;show _<=g4;omega) (.int .i64 (L k+1));clear TA TB TT S2 S4 hO Bl hm;generalize L k=Lk at*;go_wp2_with fail
         go_roundw
         case rel=>exact⟨k+1,by omega,by go_num,PA,PB,PT,P4,P2,PO,tM⟩
         case measure=>simp[intOf];omega
        |false =>
         cases hb:tb.h k with
         |true =>
          have hm:(ta.h k||tb.h k)=true:=by rw[hb];simp
          rw[ha]at ca;rw[hb]at cb;clear ha hb;have cg:(wr.setCell ⟨gt,k,none⟩ (.bool true)).cell? ⟨g4,k,none⟩=some (.int .i64 (L k)):=by rw[(S4.aq (q:=gt) (by have:=HG.out;omega) k (.bool true)).cell k hlt];simp
          have fg:=(S4.aq (q:=gt) (by have:=HG.out;omega) k (.bool true)).frozen k;have oe:=tK.out k;have hL0:=oe.1;have hL1:=oe.2;have P2:=(S2.aq (q:=gt) (by have:=HG.out;have:=hq.out;omega) k (.bool true)).aq (q:=g4) (by have:=hq.out;omega) k (.int .i64 (L k+1));have P4:=((S4.aq (q:=gt) (by have:=HG.out;omega) k (.bool true)).set k (L k+1)).congr (f':=λj=>if j<k+1 then Xb (WA ta tb) L j else L j) (λj _=>Ig hm);have PA:=(TA.aq (q:=gt) (by have:=HG.out;omega) k (.bool true)).aq (q:=g4) (by have:=HG.out;omega) k (.int .i64 (L k+1));have PB:=(TB.aq (q:=gt) (by have:=HG.out;omega) k (.bool true)).aq (q:=g4) (by have:=HG.out;omega) k (.int .i64 (L k+1));have PT:=((TT.set k hlt true).aq (q:=g4) (by have:=HG.out;omega) k (.int .i64 (L k+1))).congr (t:=⟨λj=>decide (j<k+1)&&(ta.h j||tb.h j),ta.w+tb.w⟩) (λj _=>AR hm.symm) rfl;have PO:=tI (k:=k) (x:=.int .i64 (L k+1)) (tI (g:=gt) (k:=k) (x:=.bool true) hO (λe=>by have:=HG.out.2.2.2 _ e;have:=HG.out;omega)) (g:=g4) (λe=>by have:=HG.out.2.2.2 _ e;have:=HG.out;omega);have tM:=(Bl.setCell (p:=⟨gt,k,none⟩) (by have:=HG.out;have:=hq.out;show _<=gt;omega) (.bool true)).setCell (p:=⟨g4,k,none⟩) (by have:=hq.out;show _<=g4;omega) (.int .i64 (L k+1));clear TA TB TT S2 S4 hO Bl hm;generalize L k=Lk at*;go_wp2_with fail
          go_roundw
          case rel=>exact⟨k+1,by omega,by go_num,PA,PB,PT,P4,P2,PO,tM⟩
          case measure=>simp[intOf];omega
         |false =>
          have hm:(ta.h k||tb.h k)=false:=by rw[ha,hb];rfl
          rw[ha]at ca;rw[hb]at cb;have P2:=S2.aq (q:=gt) (by have:=HG.out;have:=hq.out;omega) k (.bool false);have P4:=(S4.aq (q:=gt) (by have:=HG.out;omega) k (.bool false)).congr (f':=λj=>if j<k+1 then Xb (WA ta tb) L j else L j) (λj _=>SC hm);have PA:=TA.aq (q:=gt) (by have:=HG.out;omega) k (.bool false);have PB:=TB.aq (q:=gt) (by have:=HG.out;omega) k (.bool false);have PT:=(TT.set k hlt false).congr (t:=⟨λj=>decide (j<k+1)&&(ta.h j||tb.h j),ta.w+tb.w⟩) (λj _=>AR hm.symm) rfl;have PO:=tI (k:=k) (x:=.bool false) hO (g:=gt) (λe=>by have:=HG.out.2.2.2 _ e;have:=HG.out;omega);have tM:=Bl.setCell (p:=⟨gt,k,none⟩) (by have:=HG.out;have:=hq.out;show _<=gt;omega) (.bool false);clear TA TB TT S2 S4 hO Bl hm ha hb;go_wp2_with fail
          go_roundw
          case rel=>exact⟨k+1,by omega,by go_num,PA,PB,PT,P4,P2,PO,tM⟩
          case measure=>simp[intOf];omega
       ·obtain rfl:k=16:=by omega
        have TM:=TT.congr (t:=WA ta tb) (λj hj=>by simp[WA,hj]) rfl;have SM:=S4.congr (f':=Xb (WA ta tb) L) (λj hj=>by rw[ax hj]);have him:=kn (WA ta tb);have hg4:=S4.1;have hl2:=SK.out;generalize Xb (WA ta tb) L=L' at*;generalize WA ta tb=tm at*;clear TA TB TT S4;go_wp2_with (first|refine wpList_load_row rfl 239 _ rfl gt rfl 239 (aN tm) (0,0) _ TM.2 ig rfl him ?_|refine AJ rfl _ rfl tm rfl ?_|(at_builtin;go_must (refine AK rfl _ _ rfl (g4+1) _ l2 rfl hO tm rfl (by omega) (by omega) ?_;intro v' w6 hown' hgrow)))
        have hne:∀q,q<=g4->some q≠Value.ownBlock v2:=λq SJ e=>by have:=(hO.lt q e.symm).1;omega
        have U2:=S2.block (tH S2.1 (hne _ (nL hq.out.2)) hgrow);have U4:=SM.block (tH hg4 (hne _ (nl _)) hgrow);have B6:=(Bl.alloc Bl.size _).grown hgrow (by have:=Bl.size;simp;omega) (λj hj=>by have:=(hO.lt j hj).1;have:=hq.out;omega);go_roundg n
        case measure=>omega
        case rel=>exact⟨l2++[tm],L',hown',U2,U4,B6,HF6.out,HLn.out,wh.out⟩
theorem SL(c:Nat->Int)(w:World) :
 CB 205 #[.agg (arr c)] w (.tuple #[.agg (arr (VH c).1),.int .i64 (VH c).2]):=by
 by_cases h:Wk c 2048 16
 ·exact SH c w h
 ·have e:VH c=(λ_=>0,3):=by rw[VH,ax h]
  rw[e];exact SG c w h
set_option linter.unusedVariables false
theorem SN(l:List UInt8)(x:Int):(⟨(2 :: l).toArray⟩:ByteArray)++⟨#[UInt8.ofNat x.toNat]⟩=⟨(2 :: (l++[UInt8.ofNat x.toNat])).toArray⟩:=by
 rw[show(⟨#[UInt8.ofNat x.toNat]⟩:ByteArray)=⟨([UInt8.ofNat x.toNat]).toArray⟩ from rfl,XR];rfl
theorem SO(L:Nat->Int)(n:ByteArray)(w:ByteArray):(⟨(2 :: WK L 8).toArray⟩:ByteArray)++n++w=(⟨#[2]⟩:ByteArray)++((⟨(XG L).toArray⟩:ByteArray)++n++w):=by
 apply ZN;simp[XG]
theorem qH(s:ByteArray)(w:World)(hs:s.size<=1024) :
 CB 170 #[.string s] w (.string ((⟨#[2]⟩:ByteArray)++Bk.enc s)):=by
 have c1:=λw=>Ld s w hs
 have c2:=λw=>SL (Bk.hv s) w
 have c3:=λw=>ZF s.size (s.size:Int) w (by omega) (by omega) (by omega)
 rw[Int.toNat_natCast]at c3;have c4:=λw=>DQ (VH (Bk.hv s)).1 s w (by omega)
 have HE:Hid ((⟨(2 :: WK (VH (Bk.hv s)).1 8).toArray⟩:ByteArray)++⟨(VB s.size).toArray⟩++(VO (VH (Bk.hv s)).1 s).1=(⟨#[2]⟩:ByteArray)++Bk.enc s):=SO _ _ _
 have z2:(⟨(VB s.size).toArray⟩:ByteArray).size<=5:=by
  have:=V3 s.size (by omega);show(VB s.size).toArray.size<=_;simpa using this
 have z3:=D6 (VH (Bk.hv s)).1 s;have HR:=Za (yQ (rV s hs));have hiL:=Zh (VH (Bk.hv s)).1;have hb0:(s.size:Int)<=1024:=by omega
 generalize (⟨#[2]⟩:ByteArray)++Bk.enc s=R at*;generalize (VO (VH (Bk.hv s)).1 s).1=W at*;generalize (VO (VH (Bk.hv s)).1 s).2=We at*;generalize (⟨(VB s.size).toArray⟩:ByteArray)=N at*;generalize (VH (Bk.hv s)).1=f at*;generalize (VH (Bk.hv s)).2=E at*;generalize Bk.hv s=C at*;go_enter func170,ntmps170
 go_wp2_with fail
 refine mo (c1 _) λw1 G1=>?_
 go_wp2_with fail
 refine mo (c2 _) λw2 G2=>?_
 have B2:=ag G1 G2;have L3:=ai.new w2 f;have B3:ae w (w2.alloc (.cells (arr f) 142)):=B2.alloc B2.size _;have hgl:=B2.size;clear G1 G2 B2 c1 c2;go_wp2_with (refine wpList_store_row rfl 142 _ _ rfl w2.heap.size (arr f) rfl rfl 142 _ (heap_alloc_last w2 _) hiL rfl (bj _) ?_;rw[World.setRow_alloc_new])
 generalize w2.alloc (.cells (arr f) 142)=wa at*;generalize w2.heap.size=gl at*;go_loopw [5,6] (λv i wr=>∃k:Nat,k<=8/\i=.int .i64 k/\v=.string ⟨(2 :: WK f k).toArray⟩/\ai wr gl f/\ae w wr) (λ_ i _=>8-(intOf i).toNat)
 case atStart=>exact⟨0,by omega,rfl,rfl,L3,B3⟩
 case round =>
  clear L3 B3;obtain⟨k,hk,rfl,rfl,R1,B1⟩:=hrel;by_cases hlt:k<8
  ·have hk1:=al (by omega:(k:Int)<8);have hk2:=al (by omega:k<8)
   obtain⟨K2,cV⟩:∃K2,2*k=K2:=⟨_,rfl⟩
   obtain⟨K3,cW⟩:∃K3,2*k+1=K3:=⟨_,rfl⟩
   have hK2:K2<16:=by omega
   have hK3:K3<16:=by omega
   have m2:2*(k:Int)=(K2:Int):=by omega
   have m3:(K2:Int)+1=(K3:Int):=by omega
   have jN:(K2:Int)<16:=by omega
   have jO:(K3:Int)<16:=by omega
   have HN:=DZ f k;rw[cW,cV]at HN;have c9:=R1.cell K2 hK2;have c8:=R1.cell K3 hK3;have hx:=HR.out K2 hK2;have hy:=HR.out K3 hK3;have cK:Hid (WK f (k+1)=WK f k++[UInt8.ofNat (16*f K2+f K3).toNat]):=by rw[Int.mul_comm];exact HN
   have hlen:(⟨(2 :: WK f k).toArray⟩:ByteArray).size<=100:=by
    show(2 :: WK f k).toArray.size<=_;simp[YI];omega
   have HS:=Za (SN (WK f k));clear HN cV cW;generalize f K2=x at*;generalize f K3=y at*;generalize hJ:(⟨(2 :: WK f k).toArray⟩:ByteArray)=J at*;clear hJ;obtain⟨hx0,hx1⟩:=hx;obtain⟨hy0,hy1⟩:=hy;have hcv:=nA (16*x+y) (by omega) (by omega);have w1:IntKind.i64.wrap (16*x)=16*x:=IntWalk.i64_in _ ⟨by omega,by omega⟩;have w2:IntKind.i64.wrap (16*x+y)=16*x+y:=IntWalk.i64_in _ ⟨by omega,by omega⟩;have w3:IntKind.u8.wrap (16*x+y)=16*x+y:=IntWalk.u8_in _ ⟨by omega,by omega⟩;have w4:IntKind.i64.wrap (K2:Int)=(K2:Int):=IntWalk.i64_in _ ⟨by omega,by omega⟩;have w5:IntKind.i64.wrap (K3:Int)=(K3:Int):=IntWalk.i64_in _ ⟨by omega,by omega⟩;have hgw:=R1.1;have X1:ai (wr.drew.alloc (.cells #[.int .u8 (16*x+y)] 5)) gl f:=(show ai wr.drew gl f from R1).alloc _;have X2:ae w (wr.drew.alloc (.cells #[.int .u8 (16*x+y)] 5)):=(show ae w wr.drew from B1.drew).alloc B1.size _;clear R1 B1;go_wp2_with fail
   go_region
   go_wp2_with fail
   go_roundw
   case rel=>exact⟨k+1,by omega,by go_num,by rw[cK.out,<-HS.out],X1,X2⟩
   case measure=>simp[intOf];omega
  ·obtain rfl:k=8:=by omega
   have hk1:decide ((8:Int)<8)=false:=by decide
   have hlen:(⟨(2 :: WK f 8).toArray⟩:ByteArray).size<=100:=by
    show(2 :: WK f 8).toArray.size<=_;simp[YI]
   generalize (⟨(2 :: WK f 8).toArray⟩:ByteArray)=J at*;go_wp2_with (refine wpList_load_row rfl 142 _ rfl gl rfl 142 (arr f) (0,0) _ R1.2 aF rfl hiL ?_)
   refine mo (c4 _) λw4 G4=>?_
   have B5:=ag B1 G4;clear B1 G4 c4 R1;go_wp2_with fail
   refine mo (c3 _) λw5 G5=>?_
   have B6:=ag B5 G5;clear B5 G5 c3;go_wp2_with fail
   go_ret
   exact⟨congrArg (λs=>Ending.returned (Value.string s)) HE.out,B6⟩
theorem AY(s:ByteArray)(a:Nat):s.extract a a=⟨#[]⟩:=by
 apply ZN;rw[jI];simp
theorem SP(s:ByteArray)(f a:Nat)(h:f<=a):s.extract f a++s.extract a (a+1)=s.extract f (a+1):=by
 apply ZN;rw[Xo,jI,jI,jI,show a+1-a=1 by omega,show a+1-f=(a-f)+1 by omega,List.take_add,List.drop_drop,show f+(a-f)=a by omega]
theorem Ij(s:ByteArray)(f a:Nat)(ha:a<=s.size):(s.extract f a).size=a-f:=by simp;omega
theorem SQ{l:List UInt8}{a m p:Nat}{b:Nat×Nat} :((List.range (p+1)).reverse).foldl (Wl l a m) b=((List.range p).reverse).foldl (Wl l a m) (Wl l a m b p):=by
 rw[List.range_succ];simp
theorem qI(dict text:ByteArray)(w:World)(hd:dict.size<=256)(ht:text.size<=512) :
 Calls prog 169 #[.string dict,.string text] w λe w'=>ae w w'/\∃ad cap,e=.returned (.slice ad (Tk.P (dict++text) dict.size dict.size).length cap)/\cJ w' ad (Tk.P (dict++text) dict.size dict.size):=by
 have d1':(dict.size:Int)<=256:=by omega
 have eJ:(text.size:Int)<=512:=by omega
 obtain⟨i0,hi,hz0,hz1,hz2⟩:=info_parts rz;go_enter func169,ntmps169
 go_wp2_with fail
 have hsz:(dict++text).size=dict.size+text.size:=Xc _ _;generalize hs0:dict++text=s at*;have hs1:s.size<=768:=by omega
 have hs2:(s.size:Int)<=768:=by omega
 have hds:dict.size<=s.size:=by omega
 have lJ:=Za hs0;clear hsz hs0 d1' eJ;generalize hd0:dict.size=d at*;have HD0:=Za hd0;clear hd0;go_loopw [6,7,8,9,10,11,12] (λo x i _ _ _ _ wr=>∃(a f:Nat) (X:ByteArray) (l:List Tk.T),x=.string X/\Hid (X=s.extract f a)/\i=.int .i64 (a:Nat)/\wr.ownsRow w.heap.size 177 3 o l.length (tcs l)/\f<=a/\a<=s.size/\l.length<=f/\Hid (l++Tk.P s a f=Tk.P s d d)/\ae w wr) (λ_ _ i _ _ _ _ _=>s.size-(intOf i).toNat)
 case atStart=>exact⟨d,d,⟨#[]⟩,[],rfl,(AY s d).symm,rfl,World.ownsRow_nil _ _ _ _,nl _,hds,by simp,rfl,bR _ _⟩
 case round =>
  obtain⟨a,f,X,l,rfl,hX,rfl,hown,hfa,has,hlf,hP,G⟩:=hrel;have HO:=Za hown;clear hown;have gj:X.size=a-f:=by rw[hX.out];exact Ij s f a has
  have hgs:=G.size;by_cases hend:a<s.size
  ·have d3:=al (by omega:(a:Int)<(s.size:Int));have nH:=al (by omega:a<s.size);go_wp2_with fail
   obtain⟨wo,rfl⟩:∃wo:World,wo=wr:=⟨_,rfl⟩
   obtain⟨bb,hbb⟩:∃bb,YJ s.data.toList a=bb:=⟨_,rfl⟩
   have HB:=Za hbb;clear hbb;have hl:s.data.toList.length=s.size:=by simp
   have HM:Hid (Wz s.data.toList a=min 64 (s.size-a)):=by show _=_;unfold Wz;rw[hl]
   clear hl;go_loopw [9,10,11,12] (λx y i _ wi=>∃best far q:Nat,x=.int .i64 (best:Nat)/\y=.int .i64 (far:Nat)/\i=.int .i64 (q:Nat)/\1<=q/\q<=a+1/\far<=a/\best<=64/\Hid ((List.range (a+1-q)).reverse.foldl (Wl s.data.toList a (Wz s.data.toList a)) (far,best)=bb)/\ae wo wi) (λ_ _ i _ _=>a+1-(intOf i).toNat)
   case atStart=>exact⟨0,0,1,rfl,rfl,rfl,by omega,by omega,by omega,by omega,HB.out,bR _ _⟩
   case round =>
    obtain⟨best,far,q,rfl,rfl,rfl,hq1,hq2,de,tN,hfold,Gi⟩:=hrel;by_cases hqa:q<=a
    ·have d4:=al (by omega:(q:Int)<=(a:Int));have sr:=al (by omega:q<=a)
     have hstep:(List.range (a+1-q)).reverse.foldl (Wl s.data.toList a (Wz s.data.toList a)) (far,best)=(List.range (a+1-(q+1))).reverse.foldl (Wl s.data.toList a (Wz s.data.toList a)) (Wl s.data.toList a (Wz s.data.toList a) (far,best) (a-q)):=by
      rw[show a+1-q=(a-q)+1 by omega,SQ,show a+1-(q+1)=a-q by omega]
     have hcm:=λw=>J0 s a q w (by omega) has hq1 hqa
     have hle:=uy s.data.toList (Wz s.data.toList a) (a-q) a;have tO:Wz s.data.toList a<=64:=by rw[HM.out];omega
     rw[<-HM.out]at hcm
     obtain⟨k,hk⟩:∃k,dZ s.data.toList (a-q) a (Wz s.data.toList a)=k:=⟨_,rfl⟩
     rw[hk]at hcm hle;by_cases hbig:best<k
     ·have HF:Hid ((List.range (a+1-(q+1))).reverse.foldl (Wl s.data.toList a (Wz s.data.toList a)) (q,k)=bb):=by
       show _=_;rw[<-hfold.out,hstep];unfold Wl;rw[hk,ax (by exact hbig),show a-(a-q)=q by omega]
      have d5:=al (by omega:(best:Int)<(k:Int));have SR:=al (by omega:best<k);have AZ:k<=64:=by omega
      clear hstep hfold hk hle tO;go_wp2_with (go_at_call 204;go_must (refine(hcm _).mono ?_;rintro e w1 ⟨rfl,hb1⟩))
      go_roundw
      case rel=>exact⟨k,q,q+1,rfl,rfl,by go_num,by omega,by omega,by omega,AZ,HF,ag Gi hb1⟩
      case measure=>simp[intOf];omega
     ·have HF:Hid ((List.range (a+1-(q+1))).reverse.foldl (Wl s.data.toList a (Wz s.data.toList a)) (far,best)=bb):=by
       show _=_;rw[<-hfold.out,hstep];unfold Wl;rw[hk,ab (by exact hbig)]
      have d5:=dF (by omega:¬((best:Int)<(k:Int)));have SR:=dF (by omega:¬(best<k));clear hstep hfold hk hle tO;go_wp2_with (go_at_call 204;go_must (refine(hcm _).mono ?_;rintro e w1 ⟨rfl,hb1⟩))
      go_roundw
      case rel=>exact⟨best,far,q+1,rfl,rfl,by go_num,by omega,by omega,de,tN,HF,ag Gi hb1⟩
      case measure=>simp[intOf];omega
    ·have d4:=dF (by omega:¬((q:Int)<=(a:Int)));have sr:=dF (by omega:¬(q<=a))
     have hbb:bb=(far,best):=by
      rw[<-hfold.out,show a+1-q=0 by omega];rfl
     subst hbb;have pr:=Za (Zz HO.out Gi);have GG:=ag G Gi;have hgw:=GG.size;clear hfold;by_cases h3:best<3
     ·have HN:Hid (l++Tk.P s (a+1) f=Tk.P s d d):=by
       show _=_;rw[<-hP.out,YZ hend (by rw[HB.out];exact h3)]
      have SS:Hid (X++s.extract a (a+1)=s.extract f (a+1)):=by
       show _=_;rw[hX.out];exact SP s f a hfa
      have d6:=al (by omega:(best:Int)<3);have d6':=al (by omega:best<3);have hsl:=uE s (a:Int) ((a:Int)+1) a (a+1) rfl (by omega) (by omega) (by omega);have hY:(s.extract a (a+1)).size=1:=by rw[Ij s a (a+1) (by omega)];omega
      have xm:X.size<=768:=by omega
      have hwr:IntKind.i64.wrap ((a:Int)+1)=(a:Int)+1:=IntWalk.i64_in _ ⟨by omega,by omega⟩;generalize s.extract a (a+1)=Y at*;have dp:=Za gj;clear hX gj hP HM HB;go_wp2_with fail
      go_roundw
      case rel=>exact⟨a+1,f,X++Y,l,rfl,SS,by go_num,pr.out,by omega,by omega,hlf,HN,GG⟩
      case measure=>simp[intOf];omega
     ·have kO:=Y0 s.data.toList a;rw[HB.out,HM.out]at kO;simp only at kO;have han:a+best<=s.size:=by omega
      have HN:Hid ((l++Wi s f a)++[⟨⟨#[]⟩,(far:Nat),(best:Nat)⟩]++Tk.P s (a+best) (a+best)=Tk.P s d d):=by
       show _=_;rw[<-hP.out,xE hend (by rw[HB.out];exact h3),HB.out];simp
      have d6:=dF (by omega:¬((best:Int)<3));have d6':=dF (by omega:¬(best<3));have hwr:IntKind.i64.wrap ((a:Int)+(best:Int))=(a:Int)+(best:Int):=IntWalk.i64_in _ ⟨by omega,by omega⟩;clear kO hP HM HB;by_cases hf:f<a
      ·have hE:=ky (s:=X) (by omega)
       have dP:Wi s f a=[⟨X,0,0⟩]:=by
        unfold Wi;rw[ax hf,hX.out]
       rw[dP]at HN;have dp:=Za gj;clear hX gj dP;have tok:=trivial;go_wp2_with (first|(at_builtin;have _t:=tok;go_must (refine wpList_append_own _ rfl _ _ 146 rfl w.heap.size 177 i0 (.agg #[.string ⟨#[]⟩,.int .i64 0,.int .i64 0]) 3 32 fu hi hz0 hz1 hz2 rfl (by decide) _ _ _ rfl (pr.out.alloc _) ⟨wr.heap.size,0,none⟩ 1 1 [.string X,.int .i64 0,.int .i64 0] rfl rfl (nJ _ _ _ _ _) (fA _ _ _ rfl rfl rfl) (fb (by omega)) (by omega) (by simp;omega) ?_;intro v4 w4 hown4 hgrow4 _;clear _t tok;have tP:=hgrow4.size))|(at_builtin;go_must (refine wpList_append_own _ rfl _ _ 146 rfl w.heap.size 177 i0 (.agg #[.string ⟨#[]⟩,.int .i64 0,.int .i64 0]) 3 32 fu hi hz0 hz1 hz2 rfl (by decide) _ _ _ rfl (hown4.alloc _) ⟨w4.heap.size,0,none⟩ 1 1 [.string ⟨#[]⟩,.int .i64 (far:Nat),.int .i64 (best:Nat)] rfl rfl (nJ _ _ _ _ _) (fA _ _ _ rfl rfl rfl) (fb (by omega)) (by omega) (by simp at tP hgw |-;omega) ?_;intro v5 w5 hown5 aB _)))
       go_roundw
       case rel =>
        have t1:tcs (l++[⟨X,0,0⟩]++[⟨⟨#[]⟩,(far:Nat),(best:Nat)⟩])=tcs l++[.string X,.int .i64 0,.int .i64 0]++[.string ⟨#[]⟩,.int .i64 (far:Nat),.int .i64 (best:Nat)]:=by rw[nI,nI];rfl
        have B4:=(GG.alloc hgw _).grown hgrow4 (by simp;omega) (λk hk=>(pr.out.lt k hk).1);refine⟨a+best,a+best,⟨#[]⟩,l++[⟨X,0,0⟩]++[⟨⟨#[]⟩,(far:Nat),(best:Nat)⟩],rfl,(AY s _).symm,by go_num,?_,nl _,by omega,by simp;omega,HN,(B4.alloc B4.size _).grown aB (by have:=B4.size;simp;omega) (λk hk=>(hown4.lt k hk).1)⟩;rw[t1,List.length_append,List.length_append];exact hown5
       case measure=>simp[intOf];omega
      ·have hE:=kx (s:=X) (by omega)
       have dP:Wi s f a=[]:=by
        unfold Wi;rw[ab hf]
       rw[dP,List.append_nil]at HN;have HX0:Hid (X.size=0):=by show _=_;omega
       have dp:=Za gj;clear hX gj dP;go_wp2_with (first|(at_builtin;go_must (refine wpList_append_own _ rfl _ _ 146 rfl w.heap.size 177 i0 (.agg #[.string ⟨#[]⟩,.int .i64 0,.int .i64 0]) 3 32 fu hi hz0 hz1 hz2 rfl (by decide) _ _ _ rfl (pr.out.alloc _) ⟨wr.heap.size,0,none⟩ 1 1 [.string ⟨#[]⟩,.int .i64 (far:Nat),.int .i64 (best:Nat)] rfl rfl (nJ _ _ _ _ _) (fA _ _ _ rfl rfl rfl) (fb (by omega)) (by omega) (by simp at hgw |-;omega) ?_;intro v5 w5 hown5 aB _)))
       go_roundw
       case rel =>
        have t1:tcs (l++[⟨⟨#[]⟩,(far:Nat),(best:Nat)⟩])=tcs l++[.string ⟨#[]⟩,.int .i64 (far:Nat),.int .i64 (best:Nat)]:=by rw[nI];rfl
        have hX0:X=⟨#[]⟩:=ZN (List.eq_nil_of_length_eq_zero (by simpa using HX0.out));refine⟨a+best,a+best,X,l++[⟨⟨#[]⟩,(far:Nat),(best:Nat)⟩],rfl,by rw[hX0];exact(AY s _).symm,by go_num,?_,nl _,by omega,by simp;omega,HN,(GG.alloc hgw _).grown aB (by simp;omega) (λk hk=>(pr.out.lt k hk).1)⟩;rw[t1,List.length_append];exact hown5
       case measure=>simp[intOf];omega
  ·have d3:=dF (by omega:¬((a:Int)<(s.size:Int)));have nH:=dF (by omega:¬(a<s.size))
   have HE:Hid (l++Wi s f a=Tk.P s d d):=by
    show _=_;rw[<-hP.out,xC (by omega)]
   have pr:=HO;clear hP;by_cases hf:f<a
   ·have hE:=ky (s:=X) (by omega)
    have dP:Wi s f a=[⟨X,0,0⟩]:=by
     unfold Wi;rw[ax hf,hX.out]
    rw[dP]at HE;have dp:=Za gj;clear hX gj dP;have tok:=trivial;go_wp2_with (first|(at_builtin;have _t:=tok;go_must (refine wpList_append_own _ rfl _ _ 146 rfl w.heap.size 177 i0 (.agg #[.string ⟨#[]⟩,.int .i64 0,.int .i64 0]) 3 32 fu hi hz0 hz1 hz2 rfl (by decide) _ _ _ rfl (pr.out.alloc _) ⟨wr.heap.size,0,none⟩ 1 1 [.string X,.int .i64 0,.int .i64 0] rfl rfl (nJ _ _ _ _ _) (fA _ _ _ rfl rfl rfl) (fb (by omega)) (by omega) (by simp;omega) ?_;intro v4 w4 hown4 hgrow4 _;clear _t tok;have tP:=hgrow4.size)))
    go_ret
    have t1:tcs (l++[⟨X,0,0⟩])=tcs l++[.string X,.int .i64 0,.int .i64 0]:=by rw[nI];rfl
    rw[<-t1]at hown4;obtain⟨ad,cap,hv,hsl⟩:=rA hown4;refine⟨(G.alloc hgs _).grown hgrow4 (by simp;omega) (λk hk=>(HO.out.lt k hk).1),ad,cap,?_,?_⟩
    ·rw[lJ.out,HD0.out,<-HE.out,<-hv];rfl
    ·rw[lJ.out,HD0.out,<-HE.out];exact hsl
   ·have hE:=kx (s:=X) (by omega)
    have dP:Wi s f a=[]:=by
     unfold Wi;rw[ab hf]
    rw[dP,List.append_nil]at HE;have dp:=Za gj;clear hX gj dP;go_wp2_with fail
    go_ret
    obtain⟨ad,cap,hv,hsl⟩:=rA HO.out;refine⟨G,ad,cap,?_,?_⟩
    ·rw[lJ.out,HD0.out,<-HE.out,<-hv];rfl
    ·rw[lJ.out,HD0.out,<-HE.out];exact hsl
set_option linter.unusedVariables false
namespace Bk
def bst(text s:ByteArray):ByteArray:=if s.size<text.size then(⟨#[1]⟩:ByteArray)++s else(⟨#[0]⟩:ByteArray)++text
theorem iX(text s:ByteArray):dU (fC text s) (fC text s).length=if s.size=0 then bst text s else if((⟨#[2]⟩:ByteArray)++enc s).size<(bst text s).size then(⟨#[2]⟩:ByteArray)++enc s else bst text s:=by
 have e2:∀r,dU (((⟨#[0]⟩:ByteArray)++text) :: ((⟨#[1]⟩:ByteArray)++s) :: r) 2=bst text s:=by
  intro r;rw[dU,Ex];show(if((⟨#[1]⟩:ByteArray)++s).size<((⟨#[0]⟩:ByteArray)++text).size then(⟨#[1]⟩:ByteArray)++s else(⟨#[0]⟩:ByteArray)++text)=_;rw[Zy,Zy,bst];by_cases h:s.size<text.size
  ·rw[ax (by omega),ax h]
  ·rw[ab (by omega),ab h]
 unfold fC;by_cases h0:s.size=0
 ·rw[ax h0,ax h0];exact e2 []
 ·rw[ab h0,ab h0];show dU _ 3=_;rw[dU,e2];rfl
end Bk
theorem qJ(dict text:ByteArray)(hd:dict.size<=256)(ht:text.size<=512)(ad:Option Addr)(cap:Nat)(w:World)(h:cJ w ad (Tk.P (dict++text) dict.size dict.size)) :
 CB 168 #[.slice ad (Tk.P (dict++text) dict.size dict.size).length cap] w (.string (Ww dict text)) :=
 Mr ad cap _ w h (va (vc dict text hd ht).1)
theorem SU(dict text s:ByteArray)(w:World)(hd:dict.size<=256)(ht:text.size<=512)(hS:Ww dict text=s)(hs:s.size<=1024)(hp:s.size<text.size)(hz:s.size=0) :
 CB 127 #[.string dict,.string text] w (.string ((⟨#[1]⟩:ByteArray)++s)):=by
 have c1:=λw=>qI dict text w hd ht
 have c2:=λad cap w h=>qJ dict text hd ht ad cap w h
 rw[hS]at c2;have c3:=λw=>qH s w hs
 have z2:=oM s hs;have x0:=Zy 0 text;have x1:=Zy 1 s;have x2:=Zy 2 (Bk.enc s);generalize Tk.P (dict++text) dict.size dict.size=L at*;generalize (⟨#[2]⟩:ByteArray)++Bk.enc s=T at*;generalize Bk.enc s=En at*;have hT:T.size<=20000:=by omega
 have hT':(T.size:Int)<=20000:=by omega
 have hs':(s.size:Int)<=1024:=by omega
 have ht':(text.size:Int)<=512:=by omega
 have hw1:wrap64 ((s.size:Int)+1)=(s.size:Int)+1:=nD (by omega) (by omega);have hp1:=al (by omega:(s.size:Int)+1<(text.size:Int)+1);have hp3:=al (by omega:(s.size:Int)<(text.size:Int));have hp2:=al (by omega:(s.size:Int)+1<1+(text.size:Int));have mO:(s.size:Int)+1<1+(text.size:Int):=by omega
 have hs0:s=⟨#[]⟩:=by
  apply ByteArray.ext;exact Array.eq_empty_of_size_eq_zero hz
 have hem:s.toList.isEmpty=true:=by rw[hs0,ByteArray.toList_eq];rfl
 clear hs0 hS hz c3;clear hp hd ht hs x0 x1;go_enter func127,ntmps127
 go_wp2_with fail
 refine(c1 _).mono ?_;rintro e w1 ⟨G1,ad,cap,rfl,S1⟩;go_wp2_with fail
 refine mo (c2 ad cap _ S1) λw2 G2=>?_
 have B2:=ag G1 G2;clear G1 G2 S1 c1 c2;go_wp2_with fail
 go_ret
 exact⟨rfl,B2⟩
theorem SV(dict text s:ByteArray)(w:World)(hd:dict.size<=256)(ht:text.size<=512)(hS:Ww dict text=s)(hs:s.size<=1024)(hp:¬s.size<text.size)(hz:s.size=0) :
 CB 127 #[.string dict,.string text] w (.string ((⟨#[0]⟩:ByteArray)++text)):=by
 have c1:=λw=>qI dict text w hd ht
 have c2:=λad cap w h=>qJ dict text hd ht ad cap w h
 rw[hS]at c2;have c3:=λw=>qH s w hs
 have z2:=oM s hs;have x0:=Zy 0 text;have x1:=Zy 1 s;have x2:=Zy 2 (Bk.enc s);generalize Tk.P (dict++text) dict.size dict.size=L at*;generalize (⟨#[2]⟩:ByteArray)++Bk.enc s=T at*;generalize Bk.enc s=En at*;have hT:T.size<=20000:=by omega
 have hT':(T.size:Int)<=20000:=by omega
 have hs':(s.size:Int)<=1024:=by omega
 have ht':(text.size:Int)<=512:=by omega
 have hw1:wrap64 ((s.size:Int)+1)=(s.size:Int)+1:=nD (by omega) (by omega);have hp1:=dF (by omega:¬((s.size:Int)+1<(text.size:Int)+1));have hp3:=dF (by omega:¬((s.size:Int)<(text.size:Int)));have hp2:=dF (by omega:¬((s.size:Int)+1<1+(text.size:Int)));have mO:1+(text.size:Int)<=(s.size:Int)+1:=by omega
 have hs0:s=⟨#[]⟩:=by
  apply ByteArray.ext;exact Array.eq_empty_of_size_eq_zero hz
 have hem:s.toList.isEmpty=true:=by rw[hs0,ByteArray.toList_eq];rfl
 clear hs0 hS hz c3;clear hp hd ht hs x0 x1;go_enter func127,ntmps127
 go_wp2_with fail
 refine(c1 _).mono ?_;rintro e w1 ⟨G1,ad,cap,rfl,S1⟩;go_wp2_with fail
 refine mo (c2 ad cap _ S1) λw2 G2=>?_
 have B2:=ag G1 G2;clear G1 G2 S1 c1 c2;go_wp2_with fail
 go_ret
 exact⟨rfl,B2⟩
theorem i6(dict text s:ByteArray)(w:World)(hd:dict.size<=256)(ht:text.size<=512)(hS:Ww dict text=s)(hs:s.size<=1024)(hp:s.size<text.size)(hz:s.size≠0)(hr:(Bk.enc s).size+1<s.size+1) :
 CB 127 #[.string dict,.string text] w (.string ((⟨#[2]⟩:ByteArray)++Bk.enc s)):=by
 have c1:=λw=>qI dict text w hd ht
 have c2:=λad cap w h=>qJ dict text hd ht ad cap w h
 rw[hS]at c2;have c3:=λw=>qH s w hs
 have z2:=oM s hs;have x0:=Zy 0 text;have x1:=Zy 1 s;have x2:=Zy 2 (Bk.enc s);generalize Tk.P (dict++text) dict.size dict.size=L at*;generalize (⟨#[2]⟩:ByteArray)++Bk.enc s=T at*;generalize Bk.enc s=En at*;have hT:T.size<=20000:=by omega
 have hT':(T.size:Int)<=20000:=by omega
 have hs':(s.size:Int)<=1024:=by omega
 have ht':(text.size:Int)<=512:=by omega
 have hw1:wrap64 ((s.size:Int)+1)=(s.size:Int)+1:=nD (by omega) (by omega);have hp1:=al (by omega:(s.size:Int)+1<(text.size:Int)+1);have hp3:=al (by omega:(s.size:Int)<(text.size:Int));have hp2:=al (by omega:(s.size:Int)+1<1+(text.size:Int));have mO:(s.size:Int)+1<1+(text.size:Int):=by omega
 have hem:s.toList.isEmpty=false:=by
  rw[ByteArray.toList_eq]
  cases hq:s.data.toList with
  |nil=>exact absurd (by rw[<-Xw,hq];rfl) hz
  |cons a b=>rfl
 have hr1:decide ((T.size:Int)<1+(s.size:Int))=true:=by rw[x2];simp;omega
 have hr2:(T.size:Int)<1+(s.size:Int):=by omega
 clear hS hr hz x2 z2;clear hp hd ht hs x0 x1;go_enter func127,ntmps127
 go_wp2_with fail
 refine(c1 _).mono ?_;rintro e w1 ⟨G1,ad,cap,rfl,S1⟩;go_wp2_with fail
 refine mo (c2 ad cap _ S1) λw2 G2=>?_
 have B2:=ag G1 G2;clear G1 G2 S1 c1 c2;go_wp2_with fail
 refine mo (c3 _) λw3 G3=>?_
 have B3:=ag B2 G3;clear B2 G3 c3;go_wp2_with fail
 go_ret
 exact⟨rfl,B3⟩
theorem SX(dict text s:ByteArray)(w:World)(hd:dict.size<=256)(ht:text.size<=512)(hS:Ww dict text=s)(hs:s.size<=1024)(hp:s.size<text.size)(hz:s.size≠0)(hr:¬(Bk.enc s).size+1<s.size+1) :
 CB 127 #[.string dict,.string text] w (.string ((⟨#[1]⟩:ByteArray)++s)):=by
 have c1:=λw=>qI dict text w hd ht
 have c2:=λad cap w h=>qJ dict text hd ht ad cap w h
 rw[hS]at c2;have c3:=λw=>qH s w hs
 have z2:=oM s hs;have x0:=Zy 0 text;have x1:=Zy 1 s;have x2:=Zy 2 (Bk.enc s);generalize Tk.P (dict++text) dict.size dict.size=L at*;generalize (⟨#[2]⟩:ByteArray)++Bk.enc s=T at*;generalize Bk.enc s=En at*;have hT:T.size<=20000:=by omega
 have hT':(T.size:Int)<=20000:=by omega
 have hs':(s.size:Int)<=1024:=by omega
 have ht':(text.size:Int)<=512:=by omega
 have hw1:wrap64 ((s.size:Int)+1)=(s.size:Int)+1:=nD (by omega) (by omega);have hp1:=al (by omega:(s.size:Int)+1<(text.size:Int)+1);have hp3:=al (by omega:(s.size:Int)<(text.size:Int));have hp2:=al (by omega:(s.size:Int)+1<1+(text.size:Int));have mO:(s.size:Int)+1<1+(text.size:Int):=by omega
 have hem:s.toList.isEmpty=false:=by
  rw[ByteArray.toList_eq]
  cases hq:s.data.toList with
  |nil=>exact absurd (by rw[<-Xw,hq];rfl) hz
  |cons a b=>rfl
 have hr1:decide ((T.size:Int)<1+(s.size:Int))=false:=by rw[x2];simp;omega
 have hr2:1+(s.size:Int)<=(T.size:Int):=by omega
 clear hS hr hz x2 z2;clear hp hd ht hs x0 x1;go_enter func127,ntmps127
 go_wp2_with fail
 refine(c1 _).mono ?_;rintro e w1 ⟨G1,ad,cap,rfl,S1⟩;go_wp2_with fail
 refine mo (c2 ad cap _ S1) λw2 G2=>?_
 have B2:=ag G1 G2;clear G1 G2 S1 c1 c2;go_wp2_with fail
 refine mo (c3 _) λw3 G3=>?_
 have B3:=ag B2 G3;clear B2 G3 c3;go_wp2_with fail
 go_ret
 exact⟨rfl,B3⟩
theorem SY(dict text s:ByteArray)(w:World)(hd:dict.size<=256)(ht:text.size<=512)(hS:Ww dict text=s)(hs:s.size<=1024)(hp:¬s.size<text.size)(hz:s.size≠0)(hr:(Bk.enc s).size+1<text.size+1) :
 CB 127 #[.string dict,.string text] w (.string ((⟨#[2]⟩:ByteArray)++Bk.enc s)):=by
 have c1:=λw=>qI dict text w hd ht
 have c2:=λad cap w h=>qJ dict text hd ht ad cap w h
 rw[hS]at c2;have c3:=λw=>qH s w hs
 have z2:=oM s hs;have x0:=Zy 0 text;have x1:=Zy 1 s;have x2:=Zy 2 (Bk.enc s);generalize Tk.P (dict++text) dict.size dict.size=L at*;generalize (⟨#[2]⟩:ByteArray)++Bk.enc s=T at*;generalize Bk.enc s=En at*;have hT:T.size<=20000:=by omega
 have hT':(T.size:Int)<=20000:=by omega
 have hs':(s.size:Int)<=1024:=by omega
 have ht':(text.size:Int)<=512:=by omega
 have hw1:wrap64 ((s.size:Int)+1)=(s.size:Int)+1:=nD (by omega) (by omega);have hp1:=dF (by omega:¬((s.size:Int)+1<(text.size:Int)+1));have hp3:=dF (by omega:¬((s.size:Int)<(text.size:Int)));have hp2:=dF (by omega:¬((s.size:Int)+1<1+(text.size:Int)));have mO:1+(text.size:Int)<=(s.size:Int)+1:=by omega
 have hem:s.toList.isEmpty=false:=by
  rw[ByteArray.toList_eq]
  cases hq:s.data.toList with
  |nil=>exact absurd (by rw[<-Xw,hq];rfl) hz
  |cons a b=>rfl
 have hr1:decide ((T.size:Int)<1+(text.size:Int))=true:=by rw[x2];simp;omega
 have hr2:(T.size:Int)<1+(text.size:Int):=by omega
 clear hS hr hz x2 z2;clear hp hd ht hs x0 x1;go_enter func127,ntmps127
 go_wp2_with fail
 refine(c1 _).mono ?_;rintro e w1 ⟨G1,ad,cap,rfl,S1⟩;go_wp2_with fail
 refine mo (c2 ad cap _ S1) λw2 G2=>?_
 have B2:=ag G1 G2;clear G1 G2 S1 c1 c2;go_wp2_with fail
 refine mo (c3 _) λw3 G3=>?_
 have B3:=ag B2 G3;clear B2 G3 c3;go_wp2_with fail
 go_ret
 exact⟨rfl,B3⟩
theorem Ta(dict text s:ByteArray)(w:World)(hd:dict.size<=256)(ht:text.size<=512)(hS:Ww dict text=s)(hs:s.size<=1024)(hp:¬s.size<text.size)(hz:s.size≠0)(hr:¬(Bk.enc s).size+1<text.size+1) :
 CB 127 #[.string dict,.string text] w (.string ((⟨#[0]⟩:ByteArray)++text)):=by
 have c1:=λw=>qI dict text w hd ht
 have c2:=λad cap w h=>qJ dict text hd ht ad cap w h
 rw[hS]at c2;have c3:=λw=>qH s w hs
 have z2:=oM s hs;have x0:=Zy 0 text;have x1:=Zy 1 s;have x2:=Zy 2 (Bk.enc s);generalize Tk.P (dict++text) dict.size dict.size=L at*;generalize (⟨#[2]⟩:ByteArray)++Bk.enc s=T at*;generalize Bk.enc s=En at*;have hT:T.size<=20000:=by omega
 have hT':(T.size:Int)<=20000:=by omega
 have hs':(s.size:Int)<=1024:=by omega
 have ht':(text.size:Int)<=512:=by omega
 have hw1:wrap64 ((s.size:Int)+1)=(s.size:Int)+1:=nD (by omega) (by omega);have hp1:=dF (by omega:¬((s.size:Int)+1<(text.size:Int)+1));have hp3:=dF (by omega:¬((s.size:Int)<(text.size:Int)));have hp2:=dF (by omega:¬((s.size:Int)+1<1+(text.size:Int)));have mO:1+(text.size:Int)<=(s.size:Int)+1:=by omega
 have hem:s.toList.isEmpty=false:=by
  rw[ByteArray.toList_eq]
  cases hq:s.data.toList with
  |nil=>exact absurd (by rw[<-Xw,hq];rfl) hz
  |cons a b=>rfl
 have hr1:decide ((T.size:Int)<1+(text.size:Int))=false:=by rw[x2];simp;omega
 have hr2:1+(text.size:Int)<=(T.size:Int):=by omega
 clear hS hr hz x2 z2;clear hp hd ht hs x0 x1;go_enter func127,ntmps127
 go_wp2_with fail
 refine(c1 _).mono ?_;rintro e w1 ⟨G1,ad,cap,rfl,S1⟩;go_wp2_with fail
 refine mo (c2 ad cap _ S1) λw2 G2=>?_
 have B2:=ag G1 G2;clear G1 G2 S1 c1 c2;go_wp2_with fail
 refine mo (c3 _) λw3 G3=>?_
 have B3:=ag B2 G3;clear B2 G3 c3;go_wp2_with fail
 go_ret
 exact⟨rfl,B3⟩
theorem Tb(dict text:ByteArray)(w:World)(hd:dict.size<=256)(ht:text.size<=512) :
 CB 127 #[.string dict,.string text] w (.string (fD dict text).1):=by
 have e:(fD dict text).1=dU (fC text (Ww dict text)) (fC text (Ww dict text)).length:=by rw[fD,ab (by omega)]
 rw[e,Bk.iX];have hs:=yZ hd ht;have h1:=Zy 1 (Ww dict text);have h0:=Zy 0 text;have h2:=Zy 2 (Bk.enc (Ww dict text));unfold Bk.bst;by_cases hp:(Ww dict text).size<text.size
 ·rw[ax hp];by_cases hz:(Ww dict text).size=0
  ·rw[ax hz];exact SU dict text _ w hd ht rfl hs hp hz
  ·rw[ab hz];by_cases hr:(Bk.enc (Ww dict text)).size+1<(Ww dict text).size+1
   ·rw[ax (by rw[h1,h2];exact hr)];exact i6 dict text _ w hd ht rfl hs hp hz hr
   ·rw[ab (by rw[h1,h2];exact hr)];exact SX dict text _ w hd ht rfl hs hp hz hr
 ·rw[ab hp];by_cases hz:(Ww dict text).size=0
  ·rw[ax hz];exact SV dict text _ w hd ht rfl hs hp hz
  ·rw[ab hz];by_cases hr:(Bk.enc (Ww dict text)).size+1<text.size+1
   ·rw[ax (by rw[h0,h2];exact hr)];exact SY dict text _ w hd ht rfl hs hp hz hr
   ·rw[ab (by rw[h0,h2];exact hr)];exact Ta dict text _ w hd ht rfl hs hp hz hr
theorem Ik(ad af:Option Addr)(cd cf:Nat)(a:Ar.A)(name text:ByteArray)(dict:Int)(w:World)(h:bz w ad a.aa)(hl:a.aa.length<=8796093022208)(hh:VY a.aa dict=true)(hd:(V5 a.aa dict).size<=256)(ht:text.size<=512) :
 CB 85 #[av ad cd af cf a,.string name,.string text,.int .i64 dict] w (fv (VN a.aa name text dict)):=by
 have hb:=λo p=>((bR w.heap.size w).alloc (nl _) o).alloc (by simp) p
 have C1:=Za λw' (h9:ae w w')=>zh ad af cd cf a dict w' (h.below h9) hl hh
 have C2:=Za λw'=>Tb _ _ w' hd ht
 have C3:Hid (∀w',CB 82 #[.string text] w' (.int .i64 (Wn text))):=λw'=>(wX text w' (by omega)).mono (by rintro e w2 ⟨rfl,rfl⟩;exact⟨rfl,bR _ _⟩)
 unfold fv VN;simp only;unfold av at C1 |-
 generalize (fD (V5 a.aa dict) text).1=K at*;generalize V5 a.aa dict=X at*;generalize Wn text=M at*;clear h hh hd;generalize a.aa.length=D at*;generalize a.files.length=N at*;have hti:(text.size:Int)<=512:=by omega
 go_enter func85,ntmps85
 go_wp2_with fail
 obtain⟨kA,kF⟩:=gK w #[.slice ad D cd,.slice af N cf] #[.string ⟨#[]⟩,.int .i64 0,.int .i64 0,.int .i64 0,.string ⟨#[]⟩] 35 73;have fz:∀i,((w.alloc (.cells #[.slice ad D cd,.slice af N cf] 35 (0,0))).alloc (.cells #[.string ⟨#[]⟩,.int .i64 0,.int .i64 0,.int .i64 0,.string ⟨#[]⟩] 73 (0,0))).frozen? ⟨w.heap.size+1,i,none⟩=false:=λi=>fN _ _ _ _ (by simp)
 have B1:=hb (.cells #[.slice ad D cd,.slice af N cf] 35 (0,0)) (.cells #[.string ⟨#[]⟩,.int .i64 0,.int .i64 0,.int .i64 0,.string ⟨#[]⟩] 73 (0,0));have hz:w.heap.size+1<((w.alloc (.cells #[.slice ad D cd,.slice af N cf] 35 (0,0))).alloc (.cells #[.string ⟨#[]⟩,.int .i64 0,.int .i64 0,.int .i64 0,.string ⟨#[]⟩] 73 (0,0))).heap.size:=by simp
 generalize ((w.alloc (.cells #[.slice ad D cd,.slice af N cf] 35 (0,0))).alloc (.cells #[.string ⟨#[]⟩,.int .i64 0,.int .i64 0,.int .i64 0,.string ⟨#[]⟩] 73 (0,0)))=w1 at*;have hz0:w.heap.size<w1.heap.size:=by omega
 have HS:Hid (∀w',ae w1 w'->w'.cell? ⟨w.heap.size,0,none⟩=some (.slice ad D cd)/\w'.cell? ⟨w.heap.size,1,none⟩=some (.slice af N cf)):=λw' h9=>⟨(h9.cell (p:=⟨w.heap.size,0,none⟩) hz0).trans (kA 0),(h9.cell (p:=⟨w.heap.size,1,none⟩) hz0).trans (kA 1)⟩
 have HK:Hid (∀w',ae w1 w'->w'.cell? ⟨w.heap.size+1,0,none⟩=some (.string ⟨#[]⟩)/\w'.cell? ⟨w.heap.size+1,1,none⟩=some (.int .i64 0)/\w'.cell? ⟨w.heap.size+1,2,none⟩=some (.int .i64 0)/\w'.cell? ⟨w.heap.size+1,3,none⟩=some (.int .i64 0)/\w'.cell? ⟨w.heap.size+1,4,none⟩=some (.string ⟨#[]⟩)
  ∧ w'.frozen? ⟨w.heap.size+1,0,none⟩=false/\w'.frozen? ⟨w.heap.size+1,1,none⟩=false/\w'.frozen? ⟨w.heap.size+1,2,none⟩=false/\w'.frozen? ⟨w.heap.size+1,3,none⟩=false/\w'.frozen? ⟨w.heap.size+1,4,none⟩=false):=λw' h9 =>
  ⟨(h9.cell (p:=⟨w.heap.size+1,0,none⟩) hz).trans (kF 0),(h9.cell (p:=⟨w.heap.size+1,1,none⟩) hz).trans (kF 1),(h9.cell (p:=⟨w.heap.size+1,2,none⟩) hz).trans (kF 2),(h9.cell (p:=⟨w.heap.size+1,3,none⟩) hz).trans (kF 3),(h9.cell (p:=⟨w.heap.size+1,4,none⟩) hz).trans (kF 4),
   (h9.frozen (p:=⟨w.heap.size+1,0,none⟩) hz).trans (fz 0),(h9.frozen (p:=⟨w.heap.size+1,1,none⟩) hz).trans (fz 1),(h9.frozen (p:=⟨w.heap.size+1,2,none⟩) hz).trans (fz 2),(h9.frozen (p:=⟨w.heap.size+1,3,none⟩) hz).trans (fz 3),(h9.frozen (p:=⟨w.heap.size+1,4,none⟩) hz).trans (fz 4)⟩
 have qG:Hid (∀w',ae w1 w'->(λw9=>w9.cell? ⟨w.heap.size,0,none⟩=some (.slice ad D cd)/\w9.cell? ⟨w.heap.size,1,none⟩=some (.slice af N cf)) (fh w' (w.heap.size+1) 0 (.string name) (.int .i64 dict) (.int .i64 (text.size:Int)) (.int .i64 M) (.string K))):=λw' h9=>by
  obtain⟨e0,e1⟩:=HS.out w' h9;have gr:=vA w' (w.heap.size+1) 0 (.string name) (.int .i64 dict) (.int .i64 (text.size:Int)) (.int .i64 M) (.string K);exact⟨Zg gr e0 (by simp),Zg gr e1 (by simp)⟩
 have As:=Za λw' (h9:ae w1 w')=>C1.out w' (ag B1 h9)
 clear kA kF fz C1;unfold fh at qG;simp only[Nat.zero_add]at qG;go_region_held3 (λw'=>w'.cell? ⟨w.heap.size,0,none⟩=some (.slice ad D cd)/\w'.cell? ⟨w.heap.size,1,none⟩=some (.slice af N cf))
  (first|(exact HS.out _ ((bR _ _).drew))|(exact HS.out _ B4)|(exact HS.out _ B5)|(exact HS.out _ B6)|(exact qG.out _ B6))
  (first
   |(go_at_call 82;refine(C3.out _).mono ?_;rintro e w4 ⟨rfl,G4⟩;have B4:ae w1 w4:=ag ((bR _ _).drew) G4)
   |(go_at_call 81;refine(As.out _ B4).mono ?_;rintro e w5 ⟨rfl,G5⟩;have B5:ae w1 w5:=ag B4 G5)
   |(go_at_call 127;refine(C2.out _).mono ?_;rintro e w6 ⟨rfl,G6⟩;have B6:ae w1 w6:=ag B5 G6;obtain⟨l0,l1,l2,l3,l4,lf0,lf1,lf2,lf3,lf4⟩:=HK.out w6 B6))
 all_goals
  obtain⟨k0,k1,k2,k3,k4⟩:=ik (o:=0) (.string name) (.int .i64 dict) (.int .i64 (text.size:Int)) (.int .i64 M) (.string K) l0 l1 l2 l3 l4;have B7:=vu (ag B1 B6) (w.heap.size+1) 0 (.string name) (.int .i64 dict) (.int .i64 (text.size:Int)) (.int .i64 M) (.string K) (by omega);unfold fh at k0 k1 k2 k3 k4 B7;simp only[Nat.zero_add]at k0 k1 k2 k3 k4 B7;generalize (((((w6.setCell ⟨w.heap.size+1,0,none⟩ (.string name)).setCell ⟨w.heap.size+1,1,none⟩ (.int .i64 dict)).setCell ⟨w.heap.size+1,2,none⟩ (.int .i64 (text.size:Int))).setCell ⟨w.heap.size+1,3,none⟩ (.int .i64 M)).setCell ⟨w.heap.size+1,4,none⟩ (.string K))=wz at*;clear l0 l1 l2 l3 l4 lf0 lf1 lf2 lf3 lf4 qG HS HK B6 B5 B4 G4 G5 G6;go_wp2_with fail
  exact bodyPost_ret (v:=.agg #[.string name,.int .i64 dict,.int .i64 (text.size:Int),.int .i64 M,.string K]) (by simp[results,results85,go_sem,k0,k1,k2,k3,k4]) rfl ⟨rfl,B7⟩
end Go.Proofs.YtbjbjbpgmojcbacGreatDoor
