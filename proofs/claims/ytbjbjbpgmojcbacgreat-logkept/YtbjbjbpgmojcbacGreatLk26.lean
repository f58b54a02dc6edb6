/- A part of the proof: what it leans on. -/
import Derived.Test.YtbjbjbpgmojcbacGreatLk25
set_option maxRecDepth 8000
set_option maxHeartbeats 8000000
namespace Go.Proofs.YtbjbjbpgmojcbacGreat
open Go.RowKit
namespace Ar
def cpI (a:A) (k m:Nat):List F:=(a.files.take m).map (cpF a (k+1))++(a.files.drop m).map (cpF a k)
theorem ZlO {a:A} {k m:Nat} (h:m<=a.files.length):(cpI a k m).length=a.files.length:=by
 unfold cpI;rw [List.length_append,List.length_map,List.length_map,List.length_take,List.length_drop];omega
theorem Zjl (a:A) (k:Nat):cpI a k 0=a.files.map (cpF a k):=by simp [cpI]
theorem ZnS (a:A) (k:Nat):cpI a k a.files.length=a.files.map (cpF a (k+1)):=by simp [cpI]
theorem Zgw {a:A} {k:Nat} {f:F} (h:f.dict ≠ ((k+1:Nat):Int)):cpF a (k+1) f=cpF a k f:=by
 unfold cpF;by_cases h1:1<=f.dict/\f.dict<=(k:Int)
 ·rw [if_pos h1,if_pos ⟨h1.1,by omega⟩]
 ·rw [if_neg h1,if_neg (fun h2=>h1 ⟨h2.1,by omega⟩)]
theorem Zsw {a:A} {k:Nat} {f:F} (h:f.dict=((k+1:Nat):Int)):cpF a (k+1) f={ f with dict:=(rkK a (k+1):Nat) }/\cpF a k f=f:=by
 unfold cpF;constructor
 ·rw [if_pos ⟨by omega,by omega⟩,h,Int.toNat_natCast]
 ·rw [if_neg (fun h1=>by omega)]
theorem ZlS {fs:List F} {m:Nat} (h:m<fs.length):fs.drop m=fa fs m :: fs.drop (m+1):=by
 rw [List.drop_eq_getElem_cons h,ZaG h]
theorem Zht {a:A} {k m:Nat} (h:m<a.files.length):cpI a k m=(a.files.take m).map (cpF a (k+1))++cpF a k (fa a.files m) :: (a.files.drop (m+1)).map (cpF a k)/\cpI a k (m+1)=(a.files.take m).map (cpF a (k+1))++cpF a (k+1) (fa a.files m) :: (a.files.drop (m+1)).map (cpF a k):=by
 unfold cpI;rw [ZlS h,ZN h];simp
theorem ZqD {a:A} {k m:Nat} (h:m<a.files.length) (hd:(fa a.files m).dict ≠ ((k+1:Nat):Int)):cpI a k (m+1)=cpI a k m:=by
 obtain ⟨h1,h2⟩:=Zht (k:=k) h;rw [h1,h2,Zgw hd]
theorem ZnK {a:A} {k m:Nat} (h:m<a.files.length) (hd:(fa a.files m).dict=((k+1:Nat):Int)):cpI a k (m+1)=(cpI a k m).take m++{ fa (cpI a k m) m with dict:=(rkK a (k+1):Nat) } :: (cpI a k m).drop (m+1):=by
 obtain ⟨h1,h2⟩:=Zht (k:=k) h;obtain ⟨e1,e2⟩:=Zsw (a:=a) hd;have hl:((a.files.take m).map (cpF a (k+1))).length=m:=by rw [List.length_map,List.length_take];omega
 rw [h1,h2,e1,e2];generalize (a.files.take m).map (cpF a (k+1))=P at *;generalize (a.files.drop (m+1)).map (cpF a k)=R;generalize fa a.files m=f;subst hl;have e3:fa (P++f :: R) P.length=f:=by simp [fa]
 rw [e3];simp
theorem ZmI {a:A} {k:Nat} (h:used a ((k+1:Nat):Int)=false):cpD a (k+1)=cpD a k/\a.files.map (cpF a (k+1))=a.files.map (cpF a k):=by
 constructor
 ·rw [cpD,if_neg (by rw [h];decide)]
 ·apply List.map_congr_left;intro f hf;apply Zgw;intro e;have:used a ((k+1:Nat):Int)=true:=by unfold used;rw [List.any_eq_true];exact ⟨f,hf,zdT e⟩
  rw [h] at this;cases this
theorem ZlI {a:A} {k:Nat} (h:used a ((k+1:Nat):Int)=true):cpD a (k+1)=cpD a k++[Tr.xa a.dicts k]:=by
 rw [cpD,if_pos h]
end Ar
theorem Zib (ad af:Option Addr) (cd cf:Nat) (a:Ar.A) (w:World) (h:ArV w ad af a) (hs:SaneA a) (hc:Ar.chk a ≠ 0) :
 Calls Tryz.prog 14 #[av ad cd af cf a] w fun e w'=>ArSaid w Ar.az (Ar.chk a) e w':=by
 have C1:Hid (∀ w',Below w.heap.size w w'->Calls Tryz.prog 24 #[av ad cd af cf a] w' fun e w2=>e=.returned (.int .i64 (Ar.chk a))/\Below w'.heap.size w' w2):=fun w' h9=>Zv ad af cd cf a w' (h.below h9) hs
 have hQ:Hid (∀ w',Below w.heap.size w w'->ArSaid w Ar.az (Ar.chk a) (.returned (.tuple #[.agg #[.slice none 0 0,.slice none 0 0],.int .i64 (Ar.chk a)])) w'):=fun w' h9=>Zx h9
 generalize ArSaid w Ar.az (Ar.chk a)=Q at *;unfold av at C1 |-
 generalize Ar.chk a=E at *;generalize a.dicts.length=D at *;generalize a.files.length=N at *;have e1:(E != 0)=true:=by simpa using hc
 have e2:(E == 0)=false:=by simpa using hc
 clear h hs;go_enter Tryz.func14,Tryz.ntmps14
 go_wp2_with fail
 refine (C1.out _ (Fr.start w _ _).b).mono ?_;rintro e w1 ⟨rfl,G1⟩;have F1:=(Fr.start w _ _).next G1;clear G1;obtain ⟨b,a0,a1,r0,r1,z0,z1,hz⟩:=id F1;go_wp2_with fail
 rw [F1.zero];exact bodyPost_ret (v:=.tuple #[.agg #[.slice none 0 0,.slice none 0 0],.int .i64 E]) (by simp [results,Tryz.results14,go_sem,F1.r0,F1.r1]) rfl (hQ.out _ F1.b)
theorem Zlp (ad af:Option Addr) (cd cf:Nat) (a:Ar.A) (w:World) (h:ArV w ad af a) (hs:SaneA a) (hc:Ar.chk a=0) :
 Calls Tryz.prog 14 #[av ad cd af cf a] w fun e w'=>ArSaid w ⟨Ar.cpD a a.dicts.length,a.files.map (Ar.cpF a a.dicts.length)⟩ 0 e w':=by
 obtain ⟨i0,hi,hz0,hz1,hz2⟩:=info_parts (P:=Tryz.prog) (e:=9) (z:=.string ⟨#[]⟩) (size:=1) (bytes:=16) (by kernel_rfl);obtain ⟨m1,m2,m3⟩:=Ar.Zw.1 (Ar.Ze.1 hc).1;have C1:Hid (∀ w',Below w.heap.size w w'->Calls Tryz.prog 24 #[av ad cd af cf a] w' fun e w2=>e=.returned (.int .i64 (Ar.chk a))/\Below w'.heap.size w' w2):=fun w' h9=>Zv ad af cd cf a w' (h.below h9) hs
 have C6:Hid (∀ w',Below w.heap.size w w'->Calls Tryz.prog 29 #[av ad cd af cf a] w' fun e w2=>∃ v1 v2,e=.returned (.agg #[v1,v2])/\ArOwn w'.heap.size w2 v1 v2 a/\Below w'.heap.size w' w2):=fun w' h9=>Zbe ad af cd cf a w' (h.below h9) hs m1 m2
 have CU:Hid (∀ w' c k,Below w.heap.size w w'->w'.cell? ⟨c,0,none⟩=some (.int .i64 (k:Nat))->k<=4->Calls Tryz.prog 34 #[.slice af a.files.length cf,.func (.func 33) #[] #[.pointer (some ⟨c,0,none⟩)]] w' fun e w2=>e=.returned (.bool (Ar.used a ((k+1:Nat):Int)))/\Below w'.heap.size w' w2):=fun w' c k h9 h8 h7=>Ziz af cf a c k w' (h.fs.below h9) m2 h8 h7
 have HX:Hid (∀ w',Below w.heap.size w w'->∀ k,k<a.dicts.length->∃ b off,ad=some ⟨b,off,none⟩/\b<w'.heap.size/\w'.cell? ⟨b,off+k,none⟩=some (.string (Tr.xa a.dicts k))):=fun w' hb k hk=>(h.ds.below hb).at hk
 have HFl:Hid (∀ w',Below w.heap.size w w'->∀ k,k<a.files.length->∃ b off,af=some ⟨b,off,none⟩/\b<w'.heap.size/\FlC w' b (off+k*5) (Ar.fa a.files k)):=fun w' h9 k hk=>(h.fs.below h9).at hk
 have HZ:Hid (∀ k,(Tr.xa a.dicts k).size<=281474976710656):=fun k=>nt (hs.ds k) (by decide)
 rw [hc] at C1;unfold av at C1 C6 |-
 obtain ⟨D,hD⟩:∃ D,a.dicts.length=D:=⟨_,rfl⟩
 obtain ⟨N,hN⟩:∃ N,a.files.length=N:=⟨_,rfl⟩
 have HDD:Hid (a.dicts.length=D):=hD;have HNN:Hid (a.files.length=N):=hN;rw [hD] at C1 C6 HX m1 |-
 rw [hN] at C1 C6 CU HFl m2 |-
 have hQ:Hid (∀ v1 v2 w',w'.ownsRow w.heap.size 9 1 v1 (Ar.cpD a D).length ((Ar.cpD a D).map Value.string)->w'.ownsRow w.heap.size 47 5 v2 N (fcs (a.files.map (Ar.cpF a D)))->(∀ j,v1.ownBlock=some j->v2.ownBlock ≠ some j)->Below w.heap.size w w'->ArSaid w ⟨Ar.cpD a D,a.files.map (Ar.cpF a D)⟩ 0 (.returned (.tuple #[.agg #[v1,v2],.int .i64 0])) w'):=fun v1 v2 w' h1 h2 h3 h4=>⟨v1,v2,rfl,⟨h1,by show w'.ownsRow _ _ _ _ (a.files.map (Ar.cpF a D)).length _;rw [List.length_map,hN];exact h2,h3⟩,h4⟩
 generalize ArSaid w ⟨Ar.cpD a D,a.files.map (Ar.cpF a D)⟩ 0=Q at *;have HI0:Hid (∀ k,fcs (a.files.map (Ar.cpF a k))=fcs (Ar.cpI a k 0)):=fun k=>by rw [Ar.Zjl]
 have HIN:Hid (∀ k,fcs (Ar.cpI a k N)=fcs (a.files.map (Ar.cpF a (k+1)))):=fun k=>by rw [<-hN,Ar.ZnS]
 have H0:Hid (a.files.map (Ar.cpF a 0)=a.files):=by
  show _=_;have:∀ f:Ar.F,Ar.cpF a 0 f=f:=fun f=>by unfold Ar.cpF;rw [if_neg (by omega)]
  rw [show Ar.cpF a 0=id from funext this,List.map_id]
 have HA:Hid (∀ lo w' v1 v2,ArOwn lo w' v1 v2 a->w'.ownsRow lo 9 1 v1 D (a.dicts.map Value.string)/\w'.ownsRow lo 47 5 v2 N (fcs (a.files.map (Ar.cpF a 0)))):=fun lo w' v1 v2 h9=>⟨by rw [<-hD];exact h9.o1,by rw [H0.out,<-hN];exact h9.o2⟩
 clear h hs hc m3 hD hN H0;have hDi:(D:Int)<=4:=by omega
 have hNi:(N:Int)<=12:=by omega
 go_enter Tryz.func14,Tryz.ntmps14
 go_wp2_with fail
 refine (C1.out _ (Fr.start w _ _).b).mono ?_;rintro e w1 ⟨rfl,G1⟩;have F1:=(Fr.start w _ _).next G1;clear G1 C1;obtain ⟨b,a0,a1,r0,r1,z0,z1,hz⟩:=id F1;go_wp2_with fail
 refine (C6.out _ F1.b).mono ?_;rintro e w6 ⟨v1,v2,rfl,O6,G6⟩;have F6:=F1.next G6;obtain ⟨o1,o2⟩:=HA.out _ _ _ _ O6;have hlo:w.heap.size+1<w1.heap.size:=F1.hz;have hl0:w1.heap.size<=w6.heap.size:=G6.size;generalize w1.heap.size=lo at o1 o2 hlo hl0;clear G6 O6 HA b a0 a1 r0 r1 z0 z1 hz C6 F1;obtain ⟨p1,q1,rfl,_⟩:=Zi o1;obtain ⟨p2,q2,rfl,_⟩:=Zi o2;obtain ⟨b,a0,a1,r0,r1,z0,z1,hz⟩:=id F6;have hz6:w.heap.size<w6.heap.size:=by omega
 have S0:CpS w6 (w6.alloc (.cells #[.slice none 0 0,.slice p2 N q2] 33 (0,0))) w6.heap.size lo (.slice none 0 0) (.slice p2 N q2) (Ar.cpD a 0).length N ((Ar.cpD a 0).map Value.string) (fcs (a.files.map (Ar.cpF a 0))) :=
  ⟨cN _ _ _ 0,cN _ _ _ 1,fN _ _ _ _ rfl,fN _ _ _ _ rfl,⟨rfl,.inl ⟨rfl,rfl⟩⟩,o2.alloc _,fun j hj=>by simp [Value.ownBlock] at hj,by simp [Value.ownBlock],fun e=>by have:=(o2.lt _ e).2;omega,hl0,by simp,(bR _ _).alloc hl0 _⟩
 clear o1 o2;go_wp2_with fail
 clear b a0 a1 r0 r1 z0 z1 hz;generalize (w6.alloc (.cells #[.slice none 0 0,.slice p2 N q2] 33 (0,0)))=w7 at *;generalize w6.heap.size=C at *;go_loopw [23] (fun i wr=>∃ (k:Nat) (v1:Value),k<=D/\i=.int .i64 k/\CpS w6 wr C lo v1 (.slice p2 N q2) (Ar.cpD a k).length N ((Ar.cpD a k).map Value.string) (fcs (a.files.map (Ar.cpF a k)))) (fun i _=>D - (intOf i).toNat)
 case atStart=>exact ⟨0,_,by omega,rfl,S0⟩
 case round =>
  clear S0;obtain ⟨k,v1,hk2,rfl,S1⟩:=hrel;have F7:=F6.keep S1.bel hlo;obtain ⟨b,a0,a1,r0,r1,z0,z1,hz⟩:=id F7;have hzw:w.heap.size<wr.heap.size:=by omega
  by_cases hlt:k<D
  ·have d1:decide ((k:Int)<(D:Int))=true:=by simp;omega
   have d1':decide (k<D)=true:=by simp;omega
   have hki:(k:Int)<(D:Int):=by omega
   obtain ⟨b9,off,rfl,hbl,hc⟩:=HX.out wr b k hlt;have xz:=HZ.out k;generalize hX:Tr.xa a.dicts k=X at *;have HXX:Hid (Tr.xa a.dicts k=X):=hX;clear hX;go_wp2_with fail
   have S2:=S1.below ((bR _ _).alloc (nl _) (.cells #[.int .i64 (k:Int)] 3 (0,0)));have B2:=(F6.keep S2.bel hlo).b;have hcb:(wr.alloc (.cells #[.int .i64 (k:Int)] 3 (0,0))).cell? ⟨wr.heap.size,0,none⟩=some (.int .i64 (k:Int)):=cN _ _ _ 0;refine (CU.out _ _ k B2 hcb (by omega)).mono ?_;rintro e w2 ⟨rfl,G2⟩;have S3:=S2.below G2;have hcb2:=(G2.cell (p:=⟨wr.heap.size,0,none⟩) (by simp)).trans hcb;have hlv1:v1.ownBlock ≠ some wr.heap.size:=fun e=>by have:=(S1.o1.lt _ e).2;omega
   have hlv2:(Value.slice p2 N q2).ownBlock ≠ some wr.heap.size:=fun e=>by have:=(S1.o2.lt _ e).2;omega
   have hCc:wr.heap.size ≠ C:=by have:=S1.hb;omega
   clear S1 S2 G2 hcb B2 F7 b a0 a1 r0 r1 z0 z1 hz hc hbl;generalize wr.heap.size=c at *
   cases hu:Ar.used a ((k+1:Nat):Int) with
   | false =>
    obtain ⟨e1,e2⟩:=Ar.ZmI hu;have HE1:Hid (Ar.cpD a (k+1)=Ar.cpD a k):=e1;have HE2:Hid (a.files.map (Ar.cpF a (k+1))=a.files.map (Ar.cpF a k)):=e2;clear e1 e2 hu;go_wp2_with fail
    go_roundw
    case rel=>exact ⟨k+1,v1,by omega,by go_num,by rw [HE1.out,HE2.out];exact S3⟩
    case measure=>simp [intOf];omega
   | true =>
    have HE1:Hid (Ar.cpD a (k+1)=Ar.cpD a k++[X]):=by show _=_;rw [Ar.ZlI hu,HXX.out]
    clear hu
    obtain ⟨L,hL⟩:∃ L,(Ar.cpD a k).length=L:=⟨_,rfl⟩
    have hL4:L<=4:=by
     have e1:=Ar.Zch a k;have e2:=Ar.Zjd a k;omega
    have HL1:Hid ((Ar.cpD a (k+1)).length=L+1):=by show _=_;rw [HE1.out,List.length_append,hL];rfl
    have HM1:Hid ((Ar.cpD a (k+1)).map Value.string=(Ar.cpD a k).map Value.string++[.string X]):=by show _=_;rw [HE1.out,List.map_append];rfl
    have HY:Hid (∀ m,m<N->(Ar.fa a.files m).dict=((k+1:Nat):Int)->fcs (Ar.cpI a k (m+1))=fcs ((Ar.cpI a k m).take m++{ Ar.fa (Ar.cpI a k m) m with dict:=(L:Int)+1 } :: (Ar.cpI a k m).drop (m+1))):=fun m h1 h2=>by
     have e:((Ar.rkK a (k+1):Nat):Int)=(L:Int)+1:=by rw [<-Ar.Zch,HL1.out];rfl
     rw [Ar.ZnK (by rw [HNN.out];exact h1) h2,e]
    have HNo:Hid (∀ m,m<N->(Ar.fa a.files m).dict ≠ ((k+1:Nat):Int)->fcs (Ar.cpI a k (m+1))=fcs (Ar.cpI a k m)):=fun m h1 h2=>by rw [Ar.ZqD (by rw [HNN.out];exact h1) h2]
    have HIl:Hid (∀ m,m<N->(Ar.cpI a k m).length=N):=fun m h1=>by rw [Ar.ZlO (by rw [HNN.out];omega),HNN.out]
    rw [hL,HI0.out] at S3;clear hL HE1 HXX;have c0:=S3.c0;have f0:=S3.f0;have hLi:(L:Int)<=4:=by omega
    generalize (Ar.cpD a k).map Value.string=XS at *;go_wp2_with fail
    go_region_law (first
     | (refine zsL _ rfl _ _ 30 rfl lo 9 i0 (.string ⟨#[]⟩) 1 16 U30 hi hz0 hz1 hz2 rfl (by decide) v1 _ _ rfl (S4.o1.alloc _) ⟨w4.heap.size,0,none⟩ 1 1 [.string X] rfl rfl (cell_one_new _ _ _) (by simp [Value.oneCell']) (by decide) (by unfold maxLen;omega) (by omega) (by simp;omega) _ rfl ?_;intro g cp w5 hown5 hgrow5 hat5 hlt5;obtain ⟨⟨⟨qq1,qq2⟩,S5⟩,K5⟩:=S4.put1 hgrow5 hown5 hat5;have hcb5:=K5 c _ hcb4 hCc hlv1;clear hgrow5 hown5 hat5 hlt5 K5)
     | (go_simp;go_at_call 35;refine (ZM _ _ xz).mono ?_;rintro e w4 ⟨rfl,G4⟩;have G4':=(Below.trans ((bR w2.heap.size w2).drew) G4);have S4:=S3.below G4';have c2:=S4.c0;have c3:∀ o,(w4.alloc o).cell? ⟨C,0,none⟩=some v1:=(fun o=>(cA _ _ _ (cL w4 _ c2)).trans c2);have hb4:=S4.hb;have hC4:=S4.hC;have hcb4:=(G4'.cell (p:=⟨c,0,none⟩) (cL w2 _ hcb2)).trans hcb2))
    all_goals
     clear S4 c2 c3 hb4 hC4 hcb4 G4 G4' S3 hcb2 c0 f0 qq1 qq2;generalize (w5.setCell ⟨C,0,none⟩ (.slice (some ⟨g,0,none⟩) (L+1) cp))=wq at *;have Fq:=F6.keep S5.bel hlo;have a1:=Fq.a1;clear Fq;go_wp2_with fail
     clear a1;go_loopw [44] (fun i wr=>∃ m:Nat,m<=N/\i=.int .i64 m/\CpS w6 wr C lo (.slice (some ⟨g,0,none⟩) (L+1) cp) (.slice p2 N q2) (L+1) N (XS++[.string X]) (fcs (Ar.cpI a k m))/\wr.cell? ⟨c,0,none⟩=some (.int .i64 (k:Int))) (fun i _=>N - (intOf i).toNat)
     case atStart=>exact ⟨0,by omega,rfl,S5,hcb5⟩
     case round =>
      clear S5 hcb5;obtain ⟨m,hm2,rfl,S6,hcb6⟩:=hrel;have B6:=(F6.keep S6.bel hlo).b;by_cases hlt2:m<N
      ·have d2:decide ((m:Int)<(N:Int))=true:=by simp;omega
       have d2':decide (m<N)=true:=by simp;omega
       have hmi:(m:Int)<(N:Int):=by omega
       obtain ⟨bf,of,rfl,hbl,hcf⟩:=HFl.out _ B6 m hlt2;obtain ⟨x0,x1,x2,x3,x4⟩:=hcf;have CK:=fun w' h9=>Zhk (Ar.fa a.files m) c k w' h9 (by omega)
       unfold fv at CK;have hIl:=HIl.out m hlt2;by_cases hd:(Ar.fa a.files m).dict=((k+1:Nat):Int)
       ·have e1:=HY.out m hlt2 hd;have HE:Hid (fcs (Ar.cpI a k (m+1))=fcs ((Ar.cpI a k m).take m++{ Ar.fa (Ar.cpI a k m) m with dict:=(L:Int)+1 } :: (Ar.cpI a k m).drop (m+1))):=e1;rw [decide_eq_true hd] at CK;clear e1 hd;rcases S6.o2.2 with ⟨_,h0⟩ | ⟨g2,cap2,cur2,e,_⟩
        ·omega
        simp only [Value.slice.injEq] at e;obtain ⟨rfl,_,rfl⟩:=e;generalize (Ar.fa a.files m).name=y0 at *;generalize (Ar.fa a.files m).dict=y1 at *;generalize (Ar.fa a.files m).size=y2 at *;generalize (Ar.fa a.files m).sum=y3 at *;generalize (Ar.fa a.files m).blk=y4 at *;go_wp2_with fail
        have hcb7:=fun o=>(cA _ o _ (cL _ _ hcb6)).trans hcb6
        refine (CK _ (hcb7 _)).mono ?_;rintro e w9 ⟨rfl,G9⟩;have S7:=(S6.below ((bR _ _).alloc (nl _) _)).below G9;have hcb8:=(G9.cell (p:=⟨c,0,none⟩) (cL _ _ (hcb7 _))).trans (hcb7 _);have hIl':Hid ((Ar.cpI a k m).length=N):=hIl;rw [<-hIl] at S7;obtain ⟨S8,t1,t2⟩:=CpS.set1 ((L:Int)+1) S7 (i:=m) (by omega);have c0:=S7.c0;have c1:=S7.c1;rw [hIl] at c1 S8;have hcb9:(w9.setCell ⟨g2,m*5+1,none⟩ (.int .i64 ((L:Int)+1))).cell? ⟨c,0,none⟩=some (.int .i64 (k:Int)):=Zd (Zc w9 ⟨g2,m*5+1,none⟩ _) hcb8 (fun e=>hlv2 (show some g2=some c from e.symm));clear S6 S7 hcb6 hcb7 hcb8 G9 hIl x0 x1 x2 x3 x4 CK;go_wp2_with fail
        go_roundw
        case rel=>exact ⟨m+1,by omega,by go_num,by rw [HE.out];exact S8,hcb9⟩
        case measure=>simp [intOf];omega
       ·have e1:=HNo.out m hlt2 hd;have HE:Hid (fcs (Ar.cpI a k (m+1))=fcs (Ar.cpI a k m)):=e1;rw [decide_eq_false hd] at CK;clear e1 hd;generalize (Ar.fa a.files m).name=y0 at *;generalize (Ar.fa a.files m).dict=y1 at *;generalize (Ar.fa a.files m).size=y2 at *;generalize (Ar.fa a.files m).sum=y3 at *;generalize (Ar.fa a.files m).blk=y4 at *;go_wp2_with fail
        have hcb7:=fun o=>(cA _ o _ (cL _ _ hcb6)).trans hcb6
        refine (CK _ (hcb7 _)).mono ?_;rintro e w9 ⟨rfl,G9⟩;have S7:=(S6.below ((bR _ _).alloc (nl _) _)).below G9;have hcb8:=(G9.cell (p:=⟨c,0,none⟩) (cL _ _ (hcb7 _))).trans (hcb7 _);clear S6 hcb6 hcb7 G9 hIl x0 x1 x2 x3 x4 CK;go_wp2_with fail
        go_roundw
        case rel=>exact ⟨m+1,by omega,by go_num,by rw [HE.out];exact S7,hcb8⟩
        case measure=>simp [intOf];omega
      ·obtain rfl:m=N:=by omega
       have d2:decide ((m:Int)<(m:Int))=false:=by simp
       rw [HIN.out,<-HM1.out,<-HL1.out] at S6;clear hcb6 B6;go_wp2_with fail
       go_roundw
       case rel=>exact ⟨k+1,_,by omega,by go_num,S6⟩
       case measure=>simp [intOf];omega
  ·obtain rfl:k=D:=by omega
   have d1:decide ((k:Int)<(k:Int))=false:=by simp
   obtain ⟨Bz,Oz1,Oz2,Rz0,Rz1⟩:=ZaY b S1.o1 S1.o2 hlo r0 r1;obtain ⟨pp,qq,rfl,_⟩:=Zi S1.o1;have ne9:=S1.ne;have c0:=S1.c0;have c1:=S1.c1;have hC2:=S1.hb;clear S1;go_wp2_with fail
   generalize (wr.setCell ⟨w.heap.size+1,0,none⟩ (.slice pp (Ar.cpD a k).length qq)).setCell ⟨w.heap.size+1,1,none⟩ (.slice p2 N q2)=wz at *;exact bodyPost_ret (v:=.tuple #[.agg #[.slice pp (Ar.cpD a k).length qq,.slice p2 N q2],.int .i64 0]) (by simp [results,Tryz.results14,go_sem,Rz0,Rz1]) rfl (hQ.out _ _ _ Oz1 Oz2 ne9 Bz)
theorem Zel (ad af:Option Addr) (cd cf:Nat) (a:Ar.A) (w:World) (h:ArV w ad af a) (hs:SaneA a) :
 Calls Tryz.prog 14 #[av ad cd af cf a] w fun e w'=>ArSaid w (Ar.cmpA a) (Ar.chk a) e w':=by
 by_cases hc:Ar.chk a=0
 ·rw [Ar.ZlQ hc,hc];exact Zlp ad af cd cf a w h hs hc
 ·have e:Ar.cmpA a=Ar.az:=by unfold Ar.cmpA;rw [if_neg hc]
  rw [e];exact Zib ad af cd cf a w h hs hc
namespace Ar
def reF (a:A) (size:Int) (f:F):F:=pk (retD a size) f.name (tx a.dicts f) (a.dicts.length+1:Nat)
def reI (a:A) (size:Int) (m:Nat):List F:=(a.files.take m).map (reF a size)++a.files.drop m
theorem ZrV {a:A} {size:Int} {m:Nat} (h:m<=a.files.length):(reI a size m).length=a.files.length:=by
 unfold reI;rw [List.length_append,List.length_map,List.length_take,List.length_drop];omega
theorem ZpD (a:A) (size:Int):reI a size 0=a.files:=by simp [reI]
theorem Zrv (a:A) (size:Int):reI a size a.files.length=a.files.map (reF a size):=by simp [reI]
theorem Zqq {a:A} {size:Int} {m:Nat} (h:m<a.files.length):fa (reI a size m) m=fa a.files m/\reI a size (m+1)=(reI a size m).take m++reF a size (fa a.files m) :: (reI a size m).drop (m+1):=by
 have hl:((a.files.take m).map (reF a size)).length=m:=by rw [List.length_map,List.length_take];omega
 unfold reI;rw [ZlS h,ZN h,List.map_append];generalize (a.files.take m).map (reF a size)=P at *;generalize fa a.files m=f at *;subst hl;constructor
 ·simp [fa]
 ·simp
theorem Zfl {a:A} (h:chk a=0):Tr.many (txs a)=false:=by
 obtain ⟨h1,h2⟩:=ZcJ h;unfold Tr.many;rw [Bool.or_eq_false_iff];refine ⟨dF (by omega),?_⟩
 have:∀ k,Tr.lgK (txs a) k=none:=by
  intro k
  induction k with
  | zero=>rfl
  | succ k ih =>
   rw [Tr.lgK,ih];simp only;rw [if_neg];by_cases hk:k<(txs a).length
   ·have:Tr.xa (txs a) k=(txs a)[k]:=by simp [Tr.xa,hk]
    rw [this];have:=h2 _ (gM hk);omega
   ·have:Tr.xa (txs a) k=⟨#[]⟩:=by simp [Tr.xa,hk]
    rw [this];show ¬ 512<0;omega
 rw [this];rfl
end Ar
theorem ZqR {w:World} {lo g cap i:Nat} {fs:List Ar.F} (h:w.ownsRow lo 47 5 (.slice (some ⟨g,0,none⟩) fs.length cap) fs.length (fcs fs)) (hi:i<fs.length):(∀ j,j<5->w.cell? ⟨g,i*5+j,none⟩=(fc (Ar.fa fs i))[j]?)/\∀ o,w.frozen? ⟨g,o,none⟩=false:=by
 have hcl:=Zag fs;rcases h.2 with ⟨h1,h2⟩ | ⟨g',cap',cur,h1,h2,h3,h4,h5,h6,h7⟩
 ·omega
 simp only [Value.slice.injEq,Option.some.injEq,Addr.mk.injEq] at h1;obtain ⟨⟨rfl,_⟩,_,rfl⟩:=h1;refine ⟨fun j hj=>?_,ZdR h3⟩;rw [ZgA h3,<-Array.getElem?_toList];have e1:cur.toList[i*5+j]?=(fcs fs)[i*5+j]?:=by rw [<-h7,List.getElem?_take,if_pos (by omega)]
 have e2:fs=fs.take i++Ar.fa fs i :: fs.drop (i+1):=by
  have e3:Ar.fa fs i=fs[i]:=by simp [Ar.fa,hi]
  rw [e3,<-List.drop_eq_getElem_cons hi,List.take_append_drop]
 rw [e1,e2,Zy,List.getElem?_append_right (by rw [Zag,List.length_take];omega),Zag,List.length_take,show i*5+j - min i fs.length*5=j by omega,fcs,List.getElem?_append_left (by simp;omega),<-e2];rfl
theorem CpS.set5 {w0 wr:World} {C lo g cap n1 i:Nat} {v1:Value} {xs1:List Value} {fs:List Ar.F} (f:Ar.F) (h:CpS w0 wr C lo v1 (.slice (some ⟨g,0,none⟩) fs.length cap) n1 fs.length xs1 (fcs fs)) (hi:i<fs.length) :
 CpS w0 (w5s wr g (i*5) (.string f.name) (.int .i64 f.dict) (.int .i64 f.size) (.int .i64 f.sum) (.string f.blk)) C lo v1 (.slice (some ⟨g,0,none⟩) fs.length cap) n1 fs.length xs1 (fcs (fs.take i++f :: fs.drop (i+1))):=by
 have r1:=Zfx f h.o2 hi;have hsg:=ZcN wr g (i*5) (.string f.name) (.int .i64 f.dict) (.int .i64 f.size) (.int .i64 f.sum) (.string f.blk);have hgC:some C ≠ some g:=fun e=>h.a2 (show some g=some C from e.symm)
 have hg:=(h.o2.lt g rfl).1;refine ⟨Zd hsg h.c0 hgC,Zd hsg h.c1 hgC,Zo hsg h.hb h.f0 hgC,Zo hsg h.hb h.f1 hgC,h.o1.kept hsg ?_,r1,h.ne,h.a1,h.a2,h.hC,nT h.hb hsg.size,ZfT h.bel g (i*5) _ _ _ _ _ hg⟩
 cases hv:v1.ownBlock with
 | none=>exact .inl rfl
 | some j=>exact .inr (fun e=>h.ne j hv e.symm)
namespace Im
def xz:Act:=⟨0,0,⟨#[]⟩,⟨#[]⟩⟩
def xa (l:List Act) (i:Nat):Act:=l.getD i xz
theorem Zbz {l:List Act} {i:Nat} (h:i<l.length):xa l i=l[i]:=by simp [xa,h]
end Im
def xv (x:Im.Act):Value:=.agg #[.int .i64 x.kind,.int .i64 x.n,.string x.name,.string x.text]
def xc (x:Im.Act):List Value:=[.int .i64 x.kind,.int .i64 x.n,.string x.name,.string x.text]
def xcs:List Im.Act->List Value
 | []=>[]
 | x :: l=>[.int .i64 x.kind,.int .i64 x.n,.string x.name,.string x.text]++xcs l
theorem ZcU:∀ l m:List Im.Act,xcs (l++m)=xcs l++xcs m
 | [],_=>rfl
 | x :: l,m=>by rw [List.cons_append,xcs,xcs,ZcU l m,List.append_assoc]
theorem Znc:∀ (l:List Im.Act) (i r:Nat),i<l.length->r<4->(xcs l)[i*4+r]?=(xc (Im.xa l i))[r]?
 | x :: l,0,r,_,hr=>by
  rw [xcs,List.getElem?_append_left (by simp;omega)];simp only [Nat.zero_mul,Nat.zero_add];rfl
 | x :: l,i+1,r,h,hr=>by
  have ih:=Znc l i r (by simpa using h) hr;rw [xcs,List.getElem?_append_right (by simp;omega)];have e:(i+1)*4+r - ([.int .i64 x.kind,.int .i64 x.n,.string x.name,.string x.text]:List Value).length=i*4+r:=by simp;omega
  rw [e,ih];rfl
theorem one4 (a b:ByteArray) (x y:Int):∀ u ∈ ([.int .i64 x,.int .i64 y,.string a,.string b]:List Value),u.oneCell'=true:=by
 intro u hu;simp at hu;rcases hu with rfl | rfl | rfl | rfl <;> rfl
theorem ZtU (w:World) (p q r s:Value) (T:TypeId):∀ j u,[p,q,r,s][j]?=some u->(w.alloc (.cells #[p,q,r,s] T)).cell? ((⟨w.heap.size,0,none⟩:Addr).add j)=some u:=by
 intro j u hj;rw [Zax,World.cell?_alloc_mark];simpa using hj
structure XC (w:World) (b o:Nat) (x:Im.Act):Prop where
 c0:w.cell? ⟨b,o,none⟩=some (.int .i64 x.kind)
 c1:w.cell? ⟨b,o+1,none⟩=some (.int .i64 x.n)
 c2:w.cell? ⟨b,o+2,none⟩=some (.string x.name)
 c3:w.cell? ⟨b,o+3,none⟩=some (.string x.text)
theorem XC.below {w w':World} {b o:Nat} {x:Im.Act} (h:XC w b o x) (G:Below w.heap.size w w'):XC w' b o x:=by
 have hl:b<w.heap.size:=cL w _ h.c0;exact ⟨(G.cell (p:=⟨b,o,none⟩) hl).trans h.c0,(G.cell (p:=⟨b,o+1,none⟩) hl).trans h.c1,(G.cell (p:=⟨b,o+2,none⟩) hl).trans h.c2,(G.cell (p:=⟨b,o+3,none⟩) hl).trans h.c3⟩
def XSl (w:World) (ad:Option Addr) (l:List Im.Act):Prop:=l=[]\/∃ b off,ad=some ⟨b,off,none⟩/\b<w.heap.size/\∀ i,i<l.length->XC w b (off+i*4) (Im.xa l i)
theorem XSl.below {w w':World} {ad:Option Addr} {l:List Im.Act} (h:XSl w ad l) (G:Below w.heap.size w w'):XSl w' ad l:=by
 rcases h with h | ⟨b,off,h1,h2,h3⟩
 ·exact .inl h
 ·exact .inr ⟨b,off,h1,nT h2 G.size,fun i hi=>(h3 i hi).below G⟩
theorem XSl.at {w:World} {ad:Option Addr} {l:List Im.Act} (h:XSl w ad l) {i:Nat} (hi:i<l.length):∃ b off,ad=some ⟨b,off,none⟩/\b<w.heap.size/\XC w b (off+i*4) (Im.xa l i):=by
 rcases h with rfl | ⟨b,off,h1,h2,h3⟩
 ·simp at hi
 ·exact ⟨b,off,h1,h2,h3 i hi⟩
theorem Zjp {w:World} {lo:Nat} {v:Value} {l:List Im.Act} (h:w.ownsRow lo 29 4 v l.length (xcs l)):∃ ad cap,v=.slice ad l.length cap/\XSl w ad l:=by
 rcases h.2 with ⟨h1,h2⟩ | ⟨g,cap,cur,h1,h2,h3,h4,h5,h6,h7⟩
 ·exact ⟨none,0,by rw [h1,h2],.inl (lZ.1 h2)⟩
 ·refine ⟨_,cap,h1,.inr ⟨g,0,rfl,(aG.1 h3).1,fun i hi=>?_⟩⟩;have hc:=h.cells (g:=g) (by rw [h1];rfl)
  have at4:∀ r u,r<4->(xc (Im.xa l i))[r]?=some u->w.cell? ⟨g,i*4+r,none⟩=some u:=fun r u hr hu=>by
   have:=hc (i*4+r) u (by rw [Znc l i r hi hr];exact hu)
   rwa [Zax] at this
  rw [Nat.zero_add];exact ⟨at4 0 _ (by omega) rfl,at4 1 _ (by omega) rfl,at4 2 _ (by omega) rfl,at4 3 _ (by omega) rfl⟩
structure XB (w:World) (b:Nat) (k n:Int) (name text:ByteArray):Prop where
 c0:w.cell? ⟨b,0,none⟩=some (.int .i64 k)
 c1:w.cell? ⟨b,1,none⟩=some (.int .i64 n)
 c2:w.cell? ⟨b,2,none⟩=some (.string name)
 c3:w.cell? ⟨b,3,none⟩=some (.string text)
 f:∀ i,w.frozen? ⟨b,i,none⟩=false
theorem XB.lt {w:World} {b:Nat} {k n:Int} {s t:ByteArray} (h:XB w b k n s t):b<w.heap.size:=World.block_lt_of_cell? w _ h.c0
theorem XB.block {w w':World} {b:Nat} {k n:Int} {s t:ByteArray} (h:XB w b k n s t) (hb:w'.heap[b]?=w.heap[b]?):XB w' b k n s t :=
 ⟨(cB (w:=w) (a:=⟨b,0,none⟩) hb).trans h.c0,(cB (w:=w) (a:=⟨b,1,none⟩) hb).trans h.c1,(cB (w:=w) (a:=⟨b,2,none⟩) hb).trans h.c2,(cB (w:=w) (a:=⟨b,3,none⟩) hb).trans h.c3,fun i=>(fB (w:=w) (a:=⟨b,i,none⟩) hb).trans (h.f i)⟩
theorem XB.next {w w':World} {b:Nat} {k n:Int} {s t:ByteArray} (h:XB w b k n s t) (G:Below w.heap.size w w'):XB w' b k n s t:=h.block (G.block b h.lt)
theorem XB.on {w w':World} {b p:Nat} {k n:Int} {s t:ByteArray} (h:XB w b k n s t) (G:On p w w') (hne:b ≠ p):XB w' b k n s t:=h.block (G.block b h.lt (by simp;omega))
theorem XB.far {w:World} {b p o:Nat} {k n:Int} {s t:ByteArray} (h:XB w b k n s t) (hne:b ≠ p) (v:Value):XB (w.setCell ⟨p,o,none⟩ v) b k n s t:=h.block (Below.heap_setCell _ _ _ _ (by simp;omega))
theorem XB.new (w:World) (T:TypeId) (k n:Int) (s t:ByteArray):XB (w.alloc (.cells #[.int .i64 k,.int .i64 n,.string s,.string t] T (0,0))) w.heap.size k n s t :=
 ⟨cN _ _ _ 0,cN _ _ _ 1,cN _ _ _ 2,cN _ _ _ 3,fun _=>fN _ _ _ _ rfl⟩
theorem XB.s0 {w:World} {b:Nat} {k n:Int} {s t:ByteArray} (h:XB w b k n s t) (k':Int):XB (w.setCell ⟨b,0,none⟩ (.int .i64 k')) b k' n s t :=
 ⟨cS _ _ _ h.c0,(cO _ _ _ _ (by simp)).trans h.c1,(cO _ _ _ _ (by simp)).trans h.c2,(cO _ _ _ _ (by simp)).trans h.c3,fun i=>by rw [World.frozen?_setCell];exact h.f i⟩
theorem XB.s1 {w:World} {b:Nat} {k n:Int} {s t:ByteArray} (h:XB w b k n s t) (k':Int):XB (w.setCell ⟨b,1,none⟩ (.int .i64 k')) b k k' s t :=
 ⟨(cO _ _ _ _ (by simp)).trans h.c0,cS _ _ _ h.c1,(cO _ _ _ _ (by simp)).trans h.c2,(cO _ _ _ _ (by simp)).trans h.c3,fun i=>by rw [World.frozen?_setCell];exact h.f i⟩
theorem XB.s2 {w:World} {b:Nat} {k n:Int} {s t:ByteArray} (h:XB w b k n s t) (k':ByteArray):XB (w.setCell ⟨b,2,none⟩ (.string k')) b k n k' t :=
 ⟨(cO _ _ _ _ (by simp)).trans h.c0,(cO _ _ _ _ (by simp)).trans h.c1,cS _ _ _ h.c2,(cO _ _ _ _ (by simp)).trans h.c3,fun i=>by rw [World.frozen?_setCell];exact h.f i⟩
theorem XB.s3 {w:World} {b:Nat} {k n:Int} {s t:ByteArray} (h:XB w b k n s t) (k':ByteArray):XB (w.setCell ⟨b,3,none⟩ (.string k')) b k n s k' :=
 ⟨(cO _ _ _ _ (by simp)).trans h.c0,(cO _ _ _ _ (by simp)).trans h.c1,(cO _ _ _ _ (by simp)).trans h.c2,cS _ _ _ h.c3,fun i=>by rw [World.frozen?_setCell];exact h.f i⟩
theorem XB.set {w:World} {b:Nat} {k n:Int} {s t:ByteArray} (h:XB w b k n s t) (k' n':Int) (s' t':ByteArray):XB ((((w.setCell ⟨b,0,none⟩ (.int .i64 k')).setCell ⟨b,1,none⟩ (.int .i64 n')).setCell ⟨b,2,none⟩ (.string s')).setCell ⟨b,3,none⟩ (.string t')) b k' n' s' t':=(((h.s0 k').s1 n').s2 s').s3 t'
theorem ZeS {B:Nat} {w w':World} (h:Below B w w') {b:Nat} (hb:B<=b) (v0 v1 v2 v3:Value):Below B w ((((w'.setCell ⟨b,0,none⟩ v0).setCell ⟨b,1,none⟩ v1).setCell ⟨b,2,none⟩ v2).setCell ⟨b,3,none⟩ v3):=(((h.setCell hb _).setCell hb _).setCell hb _).setCell hb _
theorem ArOwn.hand {lo:Nat} {w:World} {v1 v2:Value} {a:Ar.A} (h:ArOwn lo w v1 v2 a):∃ ad cd af cf,(.agg #[v1,v2]:Value)=av ad cd af cf a/\ArV w ad af a:=by
 obtain ⟨ad,cd,rfl,_,hfar⟩:=Zez h.o1;have o2:=h.o2;rcases h.o2.2 with ⟨rfl,h2⟩ | ⟨g,cap,cur,rfl,h2,h3,_⟩
 ·have e:a.files=[]:=lZ.1 h2;exact ⟨ad,cd,none,0,by unfold av;rw [h2],TxFar.sl hfar,.inl e⟩
 ·refine ⟨ad,cd,some ⟨g,0,none⟩,cap,rfl,TxFar.sl hfar,.inr ⟨g,0,rfl,aG.1 h3 |>.1,fun i hi=>?_⟩⟩;obtain ⟨hat,_⟩:=ZqR o2 hi;rw [Nat.zero_add];exact ⟨hat 0 (by omega),hat 1 (by omega),hat 2 (by omega),hat 3 (by omega),hat 4 (by omega)⟩
theorem Zee {a:Ar.A} (h1:a.dicts.length<=8796093022208) (h2:a.files.length<=8796093022208) (h3:∀ d ∈ a.dicts,d.size<=140737488355328) (h4:∀ f ∈ a.files,f.name.size<=140737488355328/\f.blk.size<=140737488355328):SaneA a:=by
 have hf:∀ i,(Ar.fa a.files i).name.size<=140737488355328/\(Ar.fa a.files i).blk.size<=140737488355328:=fun i=>by
  by_cases hi:i<a.files.length
  ·rw [Ar.ZaG hi];exact h4 _ (gM hi)
  ·have e:Ar.fa a.files i=Ar.fz:=by simp [Ar.fa,hi]
   rw [e];exact ⟨Nat.zero_le _,Nat.zero_le _⟩
 refine ⟨h1,h2,fun i=>?_,fun i=>(hf i).1,fun i=>(hf i).2⟩;by_cases hi:i<a.dicts.length
 ·have e:Tr.xa a.dicts i=a.dicts[i]:=by simp [Tr.xa,hi]
  rw [e];exact h3 _ (gM hi)
 ·have e:Tr.xa a.dicts i=⟨#[]⟩:=by simp [Tr.xa,hi]
  rw [e];exact Nat.zero_le _
theorem SaneA.mem {a:Ar.A} (h:SaneA a):(∀ d ∈ a.dicts,d.size<=140737488355328)/\∀ f ∈ a.files,f.name.size<=140737488355328/\f.blk.size<=140737488355328:=by
 constructor
 ·intro d hd;obtain ⟨i,hi,rfl⟩:=List.getElem_of_mem hd;have:=h.ds i;simpa [Tr.xa,hi] using this
 ·intro f hf;obtain ⟨i,hi,rfl⟩:=List.getElem_of_mem hf;have h1:=h.nm i;have h2:=h.bk i;rw [Ar.ZaG hi] at h1 h2;exact ⟨h1,h2⟩
theorem Zdf:SaneA Ar.az:=Zee (by decide) (by decide) (fun d hd=>by cases hd) (fun f hf=>by cases hf)
theorem ZgW {a:Ar.A} {name text:ByteArray} {dict:Int} (h:Ar.putE a name text dict=0):Ar.chk a=0/\Ar.isNm name=true/\Ar.has a.dicts dict=true/\text.size<=512:=by
 unfold Ar.putE at h;by_cases hc:Ar.chk a=0
 ·rw [if_neg (fun h9=>h9 hc)] at h
  cases hm:Ar.isNm name with
  | false=>rw [if_pos hm] at h;cases h
  | true =>
   rw [if_neg (by rw [hm];decide)] at h
   cases hd:Ar.has a.dicts dict with
   | false=>rw [if_pos hd] at h;cases h
   | true =>
    rw [if_neg (by rw [hd];decide)] at h;refine ⟨hc,rfl,rfl,?_⟩;by_cases hl:512<text.size
    ·rw [if_pos (.inl hl)] at h;cases h
    ·omega
 ·rw [if_pos hc] at h;exact absurd h hc
theorem SaneA.put {a:Ar.A} (h:SaneA a) {name text:ByteArray} {dict:Int} (hn:name.size<=140737488355328):SaneA (Ar.putA a name text dict):=by
 by_cases he:Ar.putE a name text dict=0
 ·obtain ⟨hc,_,_,ht⟩:=ZgW he;obtain ⟨m1,m2,m3⟩:=Ar.Zw.1 (Ar.Ze.1 hc).1;have e:Ar.putA a name text dict=⟨a.dicts,Ar.putF a.files (Ar.pk a.dicts name text dict)⟩:=by unfold Ar.putA;rw [if_pos he]
  rw [e]
  have hb:(Ar.pk a.dicts name text dict).blk.size<=513:=by
   have:=(Bk.ZhS (Ar.ZaL (Ar.Ze.1 hc).1 dict) ht).2.2;show (Bk.pak (Ar.dct a.dicts dict) text).1.size<=513;omega
  have hp:=Ar.ZbE a.files name;refine Zee (by show a.dicts.length<=_;omega) ?_ h.mem.1 (fun f hf=>?_)
  ·show (Ar.putF a.files (Ar.pk a.dicts name text dict)).length<=_;unfold Ar.putF;rw [List.length_append,List.length_cons,List.length_take,List.length_drop];omega
  ·have hf':f ∈ Ar.putF a.files (Ar.pk a.dicts name text dict):=hf;unfold Ar.putF at hf';rcases List.mem_append.1 hf' with hf' | hf'
   ·exact h.mem.2 f (List.mem_of_mem_take hf')
   ·rcases List.mem_cons.1 hf' with rfl | hf'
    ·exact ⟨hn,by omega⟩
    ·exact h.mem.2 f (List.mem_of_mem_drop hf')
 ·have e:Ar.putA a name text dict=Ar.az:=by unfold Ar.putA;rw [if_neg he]
  rw [e];exact Zdf
theorem SaneA.drop {a:Ar.A} (h:SaneA a) (name:ByteArray):SaneA (Ar.Zbw a name):=by
 unfold Ar.Zbw;split
 ·refine Zee h.nd ?_ h.mem.1 (fun f hf=>?_)
  ·show (a.files.take _++a.files.drop _).length<=_;rw [List.length_append,List.length_take,List.length_drop];have:=h.nf;omega
  ·have hf':f ∈ a.files.take (Ar.pos a.files name)++a.files.drop (Ar.pos a.files name+1):=hf;rcases List.mem_append.1 hf' with hf' | hf'
   ·exact h.mem.2 f (List.mem_of_mem_take hf')
   ·exact h.mem.2 f (List.mem_of_mem_drop hf')
 ·exact Zdf
theorem SaneA.cmp {a:Ar.A} (h:SaneA a):SaneA (Ar.cmpA a):=by
 unfold Ar.cmpA;split
 ·refine Zee ?_ (by show (a.files.map _).length<=_;rw [List.length_map];exact h.nf) (fun d hd=>h.mem.1 d (Ar.ZhT (nl _) hd)) (fun f hf=>?_)
  ·show (Ar.cpD a a.dicts.length).length<=_;rw [Ar.Zch];exact nt (Ar.Zjd a _) h.nd
  ·obtain ⟨f',hf',rfl⟩:=List.mem_map.1 hf;rw [Ar.Zoz,(Ar.Zmy a _ f').2.2];exact h.mem.2 f' hf'
 ·exact Zdf
theorem SaneA.ret {a:Ar.A} (h:SaneA a) (size:Int):SaneA (Ar.retA a size):=by
 by_cases he:Ar.retE a size=0
 ·obtain ⟨hc,_,_,_⟩:=Ar.ZcE he;have hmr:=Ar.Zfj he;obtain ⟨r1,r2,r3⟩:=Ar.Zw.1 hmr;rw [Ar.ZhF he];refine Zee (nt r1 (by decide)) (by show (a.files.map _).length<=_;rw [List.length_map];exact h.nf) (fun d hd=>nt (r3 d hd) (by decide)) (fun f hf=>?_);obtain ⟨f',hf',rfl⟩:=List.mem_map.1 hf;refine ⟨(h.mem.2 f' hf').1,?_⟩;have:=(Bk.ZhS (Ar.ZaL hmr (a.dicts.length+1:Nat)) (Ar.Zde hc hf')).2.2;have ht:=Ar.Zde hc hf';show (Bk.pak (Ar.dct (Ar.retD a size) (a.dicts.length+1:Nat)) (Ar.tx a.dicts f')).1.size<=_
  have e:(Bk.pak (Ar.dct (Ar.retD a size) (a.dicts.length+1:Nat)) (Ar.tx a.dicts f')).1.size<=513:=by
   have h9:(Bk.pak (Ar.dct (⟨Ar.retD a size,a.files⟩:Ar.A).dicts (a.dicts.length+1:Nat)) (Ar.tx a.dicts f')).1.size<=(Ar.tx a.dicts f').size+1:=this;exact nt h9 (by omega)
  omega
 ·have e:Ar.retA a size=Ar.az:=by unfold Ar.retA;rw [if_neg he]
  rw [e];exact Zdf
structure Bx (w:World) (b:Nat) (x y:Value):Prop where
 c0:w.cell? ⟨b,0,none⟩=some x
 c1:w.cell? ⟨b,1,none⟩=some y
 f0:w.frozen? ⟨b,0,none⟩=false
 f1:w.frozen? ⟨b,1,none⟩=false
 lt:b<w.heap.size
theorem Bx.next {w w':World} {b:Nat} {x y:Value} (h:Bx w b x y) (G:Below w.heap.size w w'):Bx w' b x y :=
 ⟨(G.cell (p:=⟨b,0,none⟩) h.lt).trans h.c0,(G.cell (p:=⟨b,1,none⟩) h.lt).trans h.c1,(G.frozen (p:=⟨b,0,none⟩) h.lt).trans h.f0,(G.frozen (p:=⟨b,1,none⟩) h.lt).trans h.f1,nT h.lt G.size⟩
theorem Bx.new (w:World) (x y:Value):Bx (w.alloc (.cells #[x,y] 33 (0,0))) w.heap.size x y :=
 ⟨cN _ _ _ 0,cN _ _ _ 1,fN _ _ _ _ rfl,fN _ _ _ _ rfl,by simp⟩
theorem Bx.set {w:World} {b:Nat} {x y u v:Value} (h:Bx w b x y):Bx ((w.setCell ⟨b,0,none⟩ u).setCell ⟨b,1,none⟩ v) b u v:=by
 refine ⟨?_,?_,?_,?_,?_⟩
 ·exact (cO _ _ _ _ (by intro e;have:=congrArg Addr.off e;simp at this)).trans (cS _ _ _ h.c0)
 ·exact cS _ _ _ ((cO _ _ _ _ (by intro e;have:=congrArg Addr.off e;simp at this)).trans h.c1)
 ·rw [World.frozen?_setCell,World.frozen?_setCell];exact h.f0
 ·rw [World.frozen?_setCell,World.frozen?_setCell];exact h.f1
 ·have:=h.lt;simp [World.setCell];omega
theorem Bx.far {w:World} {b c:Nat} {x y:Value} (h:Bx w b x y) (hne:b ≠ c) (u v:Value):Bx ((w.setCell ⟨c,0,none⟩ u).setCell ⟨c,1,none⟩ v) b x y:=by
 refine ⟨?_,?_,?_,?_,?_⟩
 ·exact (cO _ _ _ _ (by intro e;have:=congrArg Addr.block e;simp at this;omega)).trans ((cO _ _ _ _ (by intro e;have:=congrArg Addr.block e;simp at this;omega)).trans h.c0)
 ·exact (cO _ _ _ _ (by intro e;have:=congrArg Addr.block e;simp at this;omega)).trans ((cO _ _ _ _ (by intro e;have:=congrArg Addr.block e;simp at this;omega)).trans h.c1)
 ·rw [World.frozen?_setCell,World.frozen?_setCell];exact h.f0
 ·rw [World.frozen?_setCell,World.frozen?_setCell];exact h.f1
 ·have:=h.lt;simp [World.setCell];omega
theorem Zu {B:Nat} {w w':World} (h:Below B w w') {b:Nat} (hb:B<=b) (u v:Value):Below B w ((w'.setCell ⟨b,0,none⟩ u).setCell ⟨b,1,none⟩ v):=(h.setCell hb _).setCell hb _
theorem Za (w:World) (o:Obj):Below w.heap.size w (w.alloc o):=(Below.refl _ _).alloc (Nat.le_refl _) o
theorem ArOwn.set2 {lo:Nat} {w:World} {v1 v2:Value} {a:Ar.A} (h:ArOwn lo w v1 v2 a) {b:Nat} (hb:b<lo) (u v:Value):ArOwn lo ((w.setCell ⟨b,0,none⟩ u).setCell ⟨b,1,none⟩ v) v1 v2 a:=by
 have g1:=Zc w ⟨b,0,none⟩ u;have g2:=Zc (w.setCell ⟨b,0,none⟩ u) ⟨b,1,none⟩ v;exact ⟨(h.o1.kept g1 (.inr (Zat h.o1 hb).symm)).kept g2 (.inr (Zat h.o1 hb).symm),(h.o2.kept g1 (.inr (Zat h.o2 hb).symm)).kept g2 (.inr (Zat h.o2 hb).symm),h.ne⟩
theorem ArOwn.next {lo:Nat} {w w':World} {v1 v2:Value} {a:Ar.A} (h:ArOwn lo w v1 v2 a) (G:Below w.heap.size w w'):ArOwn lo w' v1 v2 a:=⟨Zj h.o1 G,Zj h.o2 G,h.ne⟩
theorem ZmW {w:World} {base base':Nat} {e:TypeId} {size:Nat} {v:Value} {n:Nat} {xs:List Value} (h:w.ownsRow base e size v n xs) (hb:base'<=base):w.ownsRow base' e size v n xs :=
 ⟨h.1,h.2.imp id (fun ⟨g,cap,cur,h1,h2,h3⟩=>⟨g,cap,cur,h1,nt hb h2,h3⟩)⟩
theorem ArOwn.low {lo lo':Nat} {w:World} {v1 v2:Value} {a:Ar.A} (h:ArOwn lo w v1 v2 a) (hl:lo'<=lo):ArOwn lo' w v1 v2 a:=⟨ZmW h.o1 hl,ZmW h.o2 hl,h.ne⟩
theorem ArOwn.slices {lo:Nat} {w:World} {v1 v2:Value} {a:Ar.A} (h:ArOwn lo w v1 v2 a):∃ ad cd af cf,v1=.slice ad a.dicts.length cd/\v2=.slice af a.files.length cf/\ArV w ad af a:=by
 obtain ⟨ad,cd,af,cf,he,hv⟩:=h.hand;unfold av at he;simp only [Value.agg.injEq,Array.mk.injEq,List.cons.injEq,and_true] at he;exact ⟨ad,cd,af,cf,he.1,he.2,hv⟩
theorem ArSaid.open {w:World} {a:Ar.A} {E:Int} {e:Ending} {w':World} (h:ArSaid w a E e w'):∃ ad cd af cf,e=.returned (.tuple #[.agg #[.slice ad a.dicts.length cd,.slice af a.files.length cf],.int .i64 E])/\ArV w' ad af a/\Below w.heap.size w w':=by
 obtain ⟨v1,v2,rfl,ho,hb⟩:=h;obtain ⟨ad,cd,af,cf,rfl,rfl,hv⟩:=ho.slices;exact ⟨ad,cd,af,cf,rfl,hv,hb⟩
theorem ArSaid.own {w:World} {a:Ar.A} {E:Int} {e:Ending} {w':World} (h:ArSaid w a E e w'):∃ ad cd af cf,e=.returned (.tuple #[.agg #[.slice ad a.dicts.length cd,.slice af a.files.length cf],.int .i64 E])/\ArOwn w.heap.size w' (.slice ad a.dicts.length cd) (.slice af a.files.length cf) a/\Below w.heap.size w w':=by
 obtain ⟨v1,v2,rfl,ho,hb⟩:=h;obtain ⟨ad,cd,af,cf,rfl,rfl,hv⟩:=ho.slices;exact ⟨ad,cd,af,cf,rfl,ho,hb⟩
end Go.Proofs.YtbjbjbpgmojcbacGreat
