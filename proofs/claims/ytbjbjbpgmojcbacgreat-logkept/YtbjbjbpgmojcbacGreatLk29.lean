/- A part of the proof: what it leans on. -/
import Derived.Test.YtbjbjbpgmojcbacGreatLk28
set_option maxRecDepth 8000
set_option maxHeartbeats 8000000
namespace Go.Proofs.YtbjbjbpgmojcbacGreat
open Go.RowKit
theorem Zkv (ad af:Option Addr) (cd cf:Nat) (a:Ar.A) (size:Int) (w:World) (h:ArV w ad af a) (hs:SaneA a) (hM:Mx w) (hE:Ar.retE a size=0) :
 Calls Tryz.prog 13 #[av ad cd af cf a,.int .i64 size] w fun e w'=>ArSaid w ⟨Ar.retD a size,a.files.map (Ar.reF a size)⟩ 0 e w':=by
 obtain ⟨hc,hzz1,hzz2,h4⟩:=Ar.ZcE hE
 have hz:0<=size/\size<=256:=⟨hzz1,hzz2⟩
 obtain ⟨i0,hi,hz0,hz1,hz2⟩:=info_parts (P:=Tryz.prog) (e:=9) (z:=.string ⟨#[]⟩) (size:=1) (bytes:=16) (by kernel_rfl);obtain ⟨m1,m2,m3⟩:=Ar.Zw.1 (Ar.Ze.1 hc).1;have C1:Hid (∀ w',Below w.heap.size w w'->Calls Tryz.prog 31 #[av ad cd af cf a] w' fun e w2=>Zae a w' e w2):=fun w' h9=>ZbH ad af cd cf a w' (h.below h9) hs
 have hT:=Ar.ZcJ hc
 have C2:Hid (∀ w' adt capt,Below w.heap.size w w'->TxSl w' adt (Ar.txs a)->Calls Tryz.prog 32 #[.slice adt (Ar.txs a).length capt,.int .i64 size] w' fun e w2=>e=.returned (.tuple #[.string (Tr.trn (Ar.txs a) size.toNat),.int .i64 0])/\Below w'.heap.size w' w2):=fun w' adt capt h8 h9=>by
  have:=Zeu (Ar.txs a) size adt capt w' h9 (fun i=>by
   by_cases hi:i<(Ar.txs a).length
   ·have e:Tr.xa (Ar.txs a) i=(Ar.txs a)[i]:=by simp [Tr.xa,hi]
    rw [e];exact nt (hT.2 _ (gM hi)) (by decide)
   ·have e:Tr.xa (Ar.txs a) i=⟨#[]⟩:=by simp [Tr.xa,hi]
    rw [e];exact Nat.zero_le _) (hM.below h8)
  have eE:Tr.tnE (Ar.txs a) size=0:=by unfold Tr.tnE;rw [Ar.Zfl hc,if_neg (by decide),if_pos hz]
  have eD:Tr.tnD (Ar.txs a) size=Tr.trn (Ar.txs a) size.toNat:=by unfold Tr.tnD;rw [if_pos eE]
  rw [eE,eD] at this;exact this
 have C6:Hid (∀ w',Below w.heap.size w w'->Calls Tryz.prog 29 #[av ad cd af cf a] w' fun e w2=>∃ v1 v2,e=.returned (.agg #[v1,v2])/\ArOwn w'.heap.size w2 v1 v2 a/\Below w'.heap.size w' w2):=fun w' h9=>Zbe ad af cd cf a w' (h.below h9) hs m1 m2
 have hmr:=Ar.Zfj hE;have hrl:(Ar.retD a size).length=a.dicts.length+1:=by unfold Ar.retD;rw [List.length_append];rfl
 have CP:Hid (∀ w' adx cdx afx cfx m,m<a.files.length->TxSl w' adx (Ar.retD a size)->Calls Tryz.prog 28 #[.agg #[.slice adx (a.dicts.length+1) cdx,.slice afx a.files.length cfx],.string (Ar.fa a.files m).name,.string (Tr.xa (Ar.txs a) m),.int .i64 ((a.dicts.length:Int)+1)] w' fun e w2=>e=.returned (.tuple #[.agg #[.string (Ar.reF a size (Ar.fa a.files m)).name,.int .i64 (Ar.reF a size (Ar.fa a.files m)).dict,.int .i64 (Ar.reF a size (Ar.fa a.files m)).size,.int .i64 (Ar.reF a size (Ar.fa a.files m)).sum,.string (Ar.reF a size (Ar.fa a.files m)).blk],.int .i64 0])/\Below w'.heap.size w' w2):=fun w' adx cdx afx cfx m hm hx=>by
  have hmem:Ar.fa a.files m ∈ a.files:=by rw [Ar.ZaG hm];exact gM hm
  have e:Tr.xa (Ar.txs a) m=Ar.tx a.dicts (Ar.fa a.files m):=by unfold Ar.txs;simp [Tr.xa,Ar.fa,hm]
  have:=Zby adx afx cdx cfx ⟨Ar.retD a size,a.files⟩ (Ar.fa a.files m).name (Tr.xa (Ar.txs a) m) ((a.dicts.length:Int)+1) w' hx (by show (Ar.retD a size).length<=4;omega) (Ar.ZaL hmr _) (by show Ar.has (Ar.retD a size) _=true;unfold Ar.has;rw [hrl];exact zdT ⟨by omega,by omega⟩) (by rw [e];exact Ar.Zde hc hmem) (hs.nm m);unfold av at this;simp only [hrl] at this;rw [e] at this |-
  exact this
 have HQ:Hid (∀ v1 v2 w',w'.ownsRow w.heap.size 9 1 v1 (a.dicts.length+1) (a.dicts.map Value.string++[.string (Tr.trn (Ar.txs a) size.toNat)])->w'.ownsRow w.heap.size 47 5 v2 a.files.length (fcs (a.files.map (Ar.reF a size)))->(∀ j,v1.ownBlock=some j->v2.ownBlock ≠ some j)->Below w.heap.size w w'->ArSaid w ⟨Ar.retD a size,a.files.map (Ar.reF a size)⟩ 0 (.returned (.tuple #[.agg #[v1,v2],.int .i64 0])) w'):=fun v1 v2 w' h1 h2 h3 h4=>⟨v1,v2,rfl,⟨by
  show w'.ownsRow _ _ _ _ (Ar.retD a size).length ((Ar.retD a size).map Value.string);have e:(Ar.retD a size).map Value.string=a.dicts.map Value.string++[.string (Tr.trn (Ar.txs a) size.toNat)]:=by unfold Ar.retD;rw [List.map_append];rfl
  rw [hrl,e];exact h1,by show w'.ownsRow _ _ _ _ (a.files.map (Ar.reF a size)).length _;rw [List.length_map];exact h2,h3⟩,h4⟩
 generalize ArSaid w ⟨Ar.retD a size,a.files.map (Ar.reF a size)⟩ 0=Q at *
 have HTx:Hid (∀ lo w' ad' cap',w'.ownsRow lo 9 1 (.slice ad' (a.dicts.length+1) cap') (a.dicts.length+1) (a.dicts.map Value.string++[.string (Tr.trn (Ar.txs a) size.toNat)])->TxSl w' ad' (Ar.retD a size)):=fun lo w' ad' cap' h1=>by
  have e:(Ar.retD a size).map Value.string=a.dicts.map Value.string++[.string (Tr.trn (Ar.txs a) size.toNat)]:=by unfold Ar.retD;rw [List.map_append];rfl
  rw [<-hrl,<-e] at h1;obtain ⟨ad2,cap2,e2,_,h5⟩:=Zez h1;simp only [Value.slice.injEq] at e2;obtain ⟨rfl,_,rfl⟩:=e2;exact TxFar.sl h5
 have HI:Hid (∀ m,m<a.files.length->(Ar.reI a size m).length=a.files.length/\Ar.fa (Ar.reI a size m) m=Ar.fa a.files m/\fcs (Ar.reI a size (m+1))=fcs ((Ar.reI a size m).take m++Ar.reF a size (Ar.fa a.files m) :: (Ar.reI a size m).drop (m+1))):=fun m hm=>⟨Ar.ZrV (nL hm),(Ar.Zqq hm).1,by rw [(Ar.Zqq hm).2]⟩
 have HIN:Hid (fcs (Ar.reI a size a.files.length)=fcs (a.files.map (Ar.reF a size))):=by show _=_;rw [Ar.Zrv]
 have HA:Hid (∀ lo w' v1 v2,ArOwn lo w' v1 v2 a->w'.ownsRow lo 9 1 v1 a.dicts.length (a.dicts.map Value.string)/\w'.ownsRow lo 47 5 v2 a.files.length (fcs (Ar.reI a size 0))/\(∀ j,v1.ownBlock=some j->v2.ownBlock ≠ some j)):=fun lo w' v1 v2 h9=>⟨h9.o1,by rw [Ar.ZpD];exact h9.o2,h9.ne⟩
 have HTl:Hid ((Ar.txs a).length=a.files.length):=by show _=_;unfold Ar.txs;rw [List.length_map]
 unfold Zae at C1;rw [hc] at C1;unfold av at C1 C6 |-
 generalize hTX:Ar.txs a=TX at *;generalize hXX:Tr.trn TX size.toNat=X at *;have HXX:Hid (Tr.trn TX size.toNat=X):=hXX
 have xz:X.size<=256:=by
  have:=(Tr.Zge TX size.toNat).most;rw [hXX] at this;omega
 clear hXX hTX;generalize a.dicts.map Value.string=XS at *;clear h hs hM hc hz hT hmr hrl m3 hE;generalize a.dicts.length=D at *;generalize a.files.length=N at *;have hDi:(D:Int)<=4:=by omega
 have hNi:(N:Int)<=12:=by omega
 have d4:((D:Int) == 4)=false:=by simp;omega
 have d4':decide ((D:Int)=4)=false:=dF (by omega);have d4'':¬ (D:Int)=4:=by omega
 go_enter Tryz.func13,Tryz.ntmps13
 go_wp2_with fail
 refine (C1.out _ (Fr.start w _ _).b).mono ?_;rintro e w1 ⟨adt,capt,L,rfl,_,hfar,hLx,_,G1⟩;have hLT:=hLx (by trivial);subst hLT;have F1:=(Fr.start w _ _).next G1;clear G1 hLx C1;have hsl:=TxFar.sl hfar;obtain ⟨b,a0,a1,r0,r1,z0,z1,hz⟩:=id F1;have C2':=C2.out w1 adt capt b hsl;go_wp2_with fail
 refine C2'.mono ?_;rintro e w2 ⟨rfl,G2⟩;have F2:=F1.next G2
 have HX:Hid (∀ w',Below w2.heap.size w2 w'->∀ m,m<N->∃ b off,adt=some ⟨b,off,none⟩/\b<w2.heap.size/\w'.cell? ⟨b,off+m,none⟩=some (.string (Tr.xa L m))):=fun w' h9 m hm=>by
  obtain ⟨b,off,e1,e2,e3⟩:=(hsl.below G2).at (i:=m) (by rw [HTl.out];exact hm)
  exact ⟨b,off,e1,e2,(h9.cell (p:=⟨b,off+m,none⟩) e2).trans e3⟩
 clear b a0 a1 r0 r1 z0 z1 hz C2 C2' hsl hfar G2 F1;obtain ⟨b,a0,a1,r0,r1,z0,z1,hz⟩:=id F2;go_wp2_with fail
 refine (C6.out _ F2.b).mono ?_;rintro e w6 ⟨v1,v2,rfl,O6,G6⟩;have F6:=F2.next G6;obtain ⟨o1,o2,o3⟩:=HA.out _ _ _ _ O6;have hlo:w.heap.size+1<w2.heap.size:=F2.hz;have hl0:w2.heap.size<=w6.heap.size:=G6.size;have HX6:Hid (∀ w',Below w2.heap.size w6 w'->∀ m,m<N->∃ b off,adt=some ⟨b,off,none⟩/\b<w2.heap.size/\w'.cell? ⟨b,off+m,none⟩=some (.string (Tr.xa L m))):=fun w' h9 m hm=>HX.out w' (G6.trans h9) m hm
 generalize w2.heap.size=lo at o1 o2 hlo hl0 HX6;clear G6 O6 HA b a0 a1 r0 r1 z0 z1 hz C6 HX F2;obtain ⟨p1,q1,rfl,_⟩:=Zi o1;obtain ⟨p2,q2,rfl,_⟩:=Zi o2;obtain ⟨b,a0,a1,r0,r1,z0,z1,hz⟩:=id F6;have hz6:w.heap.size<w6.heap.size:=by omega
 have S0:CpS w6 (w6.alloc (.cells #[.slice p1 D q1,.slice p2 N q2] 33 (0,0))) w6.heap.size lo (.slice p1 D q1) (.slice p2 N q2) D N XS (fcs (Ar.reI a size 0)) :=
  ⟨cN _ _ _ 0,cN _ _ _ 1,fN _ _ _ _ rfl,fN _ _ _ _ rfl,o1.alloc _,o2.alloc _,o3,fun e=>by have:=(o1.lt _ e).2;omega,fun e=>by have:=(o2.lt _ e).2;omega,hl0,by simp,(bR _ _).alloc hl0 _⟩
 clear o1 o2 o3
 have hnw:∀ j u,[Value.string X][j]?=some u->((w6.alloc (.cells #[.slice p1 D q1,.slice p2 N q2] 33 (0,0))).alloc (.cells #[.string X] 9 (0,0))).cell? ((⟨w6.heap.size+1,0,none⟩:Addr).add j)=some u:=by
  intro j u hj;rw [Zax,(box2 w6 _ #[.string X] _ _).2];simpa using hj
 go_wp2_with (first
  | (at_builtin;refine zwL _ rfl _ _ 30 rfl lo 9 i0 (.string ⟨#[]⟩) 1 16 U30 hi hz0 hz1 hz2 rfl (by decide) (.slice p1 D q1) _ _ rfl (S0.o1.alloc _) ⟨w6.heap.size+1,0,none⟩ 1 1 [.string X] rfl rfl hnw (by simp [Value.oneCell']) (by decide) (by unfold maxLen;omega) (by omega) (by simp;omega) _ rfl ?_;intro g cp w5 hown5 hgrow5 hat5 hlt5;obtain ⟨⟨⟨qq1,qq2⟩,S5⟩,K5⟩:=S0.put1 hgrow5 hown5 hat5;have c15:=S5.c1;clear hgrow5 hown5 hat5 hlt5 K5)
  | fail)
 clear S0 hnw c15 qq1 qq2 b a0 a1 r0 r1 z0 z1 hz;generalize (w5.setCell ⟨w6.heap.size,0,none⟩ (.slice (some ⟨g,0,none⟩) (D+1) cp))=wq at *;generalize w6.heap.size=C at *;go_loopw [47] (fun i wr=>∃ m:Nat,m<=N/\i=.int .i64 m/\CpS w6 wr C lo (.slice (some ⟨g,0,none⟩) (D+1) cp) (.slice p2 N q2) (D+1) N (XS++[.string X]) (fcs (Ar.reI a size m))) (fun i _=>N - (intOf i).toNat)
 case atStart=>exact ⟨0,by omega,rfl,S5⟩
 case round =>
  clear S5;obtain ⟨m,hm2,rfl,S6⟩:=hrel;have F7:=F6.keep S6.bel hlo;by_cases hlt:m<N
  ·have d2:decide ((m:Int)<(N:Int))=true:=by simp;omega
   have d2':decide (m<N)=true:=by simp;omega
   have hmi:(m:Int)<(N:Int):=by omega
   have hmL:(m:Int)<(L.length:Int):=by rw [HTl.out];exact hmi
   have hmL':m<L.length:=by rw [HTl.out];exact hlt
   rcases S6.o2.2 with ⟨_,h0⟩ | ⟨g2,cap2,cur2,e,_⟩
   ·omega
   simp only [Value.slice.injEq] at e;obtain ⟨rfl,_,rfl⟩:=e;obtain ⟨hIl,hIf,hIs⟩:=HI.out m hlt;have HIs:Hid (fcs (Ar.reI a size (m+1))=fcs ((Ar.reI a size m).take m++Ar.reF a size (Ar.fa a.files m) :: (Ar.reI a size m).drop (m+1))):=hIs;have hat:=ZqR (i:=m) (fs:=Ar.reI a size m) (w:=wr) (lo:=lo) (g:=g2) (cap:=q2) (by rw [hIl];exact S6.o2) (by omega);rw [hIf] at hat;have x0:wr.cell? ⟨g2,m*5,none⟩=some (.string (Ar.fa a.files m).name):=hat.1 0 (by omega);have x1:wr.cell? ⟨g2,m*5+1,none⟩=some (.int .i64 (Ar.fa a.files m).dict):=hat.1 1 (by omega);have x2:wr.cell? ⟨g2,m*5+2,none⟩=some (.int .i64 (Ar.fa a.files m).size):=hat.1 2 (by omega);have x3:wr.cell? ⟨g2,m*5+3,none⟩=some (.int .i64 (Ar.fa a.files m).sum):=hat.1 3 (by omega);have x4:wr.cell? ⟨g2,m*5+4,none⟩=some (.string (Ar.fa a.files m).blk):=hat.1 4 (by omega);have hg2:g2<wr.heap.size:=(S6.o2.lt g2 rfl).2;have y:=hat.2;have CPm:=fun w' h9=>CP.out w' (some ⟨g,0,none⟩) cp (some ⟨g2,0,none⟩) q2 m hlt h9
   have HS5:Hid (∀ wk,CpS w6 wk C lo (.slice (some ⟨g,0,none⟩) (D+1) cp) (.slice (some ⟨g2,0,none⟩) N q2) (D+1) N (XS++[.string X]) (fcs (Ar.reI a size m))->CpS w6 (w5s wk g2 (m*5) (.string (Ar.reF a size (Ar.fa a.files m)).name) (.int .i64 (Ar.reF a size (Ar.fa a.files m)).dict) (.int .i64 (Ar.reF a size (Ar.fa a.files m)).size) (.int .i64 (Ar.reF a size (Ar.fa a.files m)).sum) (.string (Ar.reF a size (Ar.fa a.files m)).blk)) C lo (.slice (some ⟨g,0,none⟩) (D+1) cp) (.slice (some ⟨g2,0,none⟩) N q2) (D+1) N (XS++[.string X]) (fcs (Ar.reI a size (m+1)))):=fun wk h9=>by
    rw [<-hIl] at h9;have:=CpS.set5 (Ar.reF a size (Ar.fa a.files m)) h9 (i:=m) (by omega);rw [hIl,<-hIs] at this;exact this
   have htx:=HTx.out lo wr (some ⟨g,0,none⟩) cp S6.o1;clear hIs hIf hIl hat HIs;generalize (Ar.reF a size (Ar.fa a.files m)).name=n0 at *;generalize (Ar.reF a size (Ar.fa a.files m)).dict=n1 at *;generalize (Ar.reF a size (Ar.fa a.files m)).size=n2 at *;generalize (Ar.reF a size (Ar.fa a.files m)).sum=n3 at *;generalize (Ar.reF a size (Ar.fa a.files m)).blk=n4 at *;generalize (Ar.fa a.files m).name=f0 at *;generalize (Ar.fa a.files m).dict=f1 at *;generalize (Ar.fa a.files m).size=f2 at *;generalize (Ar.fa a.files m).sum=f3 at *;generalize (Ar.fa a.files m).blk=f4 at *;go_wp2_with fail
   have S7:=S6.below ((bR _ _).alloc (nl _) (.cells #[.string f0,.int .i64 f1,.int .i64 f2,.int .i64 f3,.string f4] 47 (0,0)));have hbx:(wr.alloc (.cells #[.string f0,.int .i64 f1,.int .i64 f2,.int .i64 f3,.string f4] 47 (0,0))).cell? ⟨wr.heap.size,0,none⟩=some (.string f0):=cN _ _ _ 0;have htx7:=htx.below ((bR _ _).alloc (nl _) (.cells #[.string f0,.int .i64 f1,.int .i64 f2,.int .i64 f3,.string f4] 47 (0,0)));have k:=fun (p:Addr) (hp:p.block<wr.heap.size)=>cA wr (.cells #[.string f0,.int .i64 f1,.int .i64 f2,.int .i64 f3,.string f4] 47 (0,0)) p hp
   have j0:=(k ⟨g2,m*5,none⟩ hg2).trans x0;have j1:=(k ⟨g2,m*5+1,none⟩ hg2).trans x1;have j2:=(k ⟨g2,m*5+2,none⟩ hg2).trans x2;have j3:=(k ⟨g2,m*5+3,none⟩ hg2).trans x3;have j4:=(k ⟨g2,m*5+4,none⟩ hg2).trans x4;have fz7:∀ o,(wr.alloc (.cells #[.string f0,.int .i64 f1,.int .i64 f2,.int .i64 f3,.string f4] 47 (0,0))).frozen? ⟨g2,o,none⟩=false:=fun o=>by rw [World.frozen?_alloc_past _ _ _ hg2];exact y o
   have hg27:g2<(wr.alloc (.cells #[.string f0,.int .i64 f1,.int .i64 f2,.int .i64 f3,.string f4] 47 (0,0))).heap.size:=by simp;omega
   generalize (wr.alloc (.cells #[.string f0,.int .i64 f1,.int .i64 f2,.int .i64 f3,.string f4] 47 (0,0)))=wP at *;generalize wr.heap.size=P at *;obtain ⟨bt,ot,rfl,hbt,hct⟩:=HX6.out wP S7.bel m hlt;have c0:=S7.c0;have c1:=S7.c1;clear x0 x1 x2 x3 x4 y k S6 htx F7;generalize Tr.xa L m=tm at *;have CP9:=CPm wP.drew (htx7.below ((bR _ _).drew))
   have HK:Hid (∀ wk,Below wP.heap.size wP.drew wk->CpS w6 wk C lo (.slice (some ⟨g,0,none⟩) (D+1) cp) (.slice (some ⟨g2,0,none⟩) N q2) (D+1) N (XS++[.string X]) (fcs (Ar.reI a size m))/\wk.cell? ⟨g2,m*5,none⟩=some (.string f0)/\wk.cell? ⟨g2,m*5+1,none⟩=some (.int .i64 f1)/\wk.cell? ⟨g2,m*5+2,none⟩=some (.int .i64 f2)/\wk.cell? ⟨g2,m*5+3,none⟩=some (.int .i64 f3)/\wk.cell? ⟨g2,m*5+4,none⟩=some (.string f4)/\∀ o,wk.frozen? ⟨g2,o,none⟩=false):=fun wk Gk=>by
    have G9:Below wP.heap.size wP wk:=Below.trans ((bR wP.heap.size wP).drew) Gk;exact ⟨S7.below G9,(G9.cell (p:=⟨g2,m*5,none⟩) hg27).trans j0,(G9.cell (p:=⟨g2,m*5+1,none⟩) hg27).trans j1,(G9.cell (p:=⟨g2,m*5+2,none⟩) hg27).trans j2,(G9.cell (p:=⟨g2,m*5+3,none⟩) hg27).trans j3,(G9.cell (p:=⟨g2,m*5+4,none⟩) hg27).trans j4,fun o=>(G9.frozen (p:=⟨g2,o,none⟩) hg27).trans (fz7 o)⟩
   have hC7:C<wP.heap.size:=S7.hb;have hloC:lo<=C:=S7.hC;have hlg:lo<=g2:=(S7.o2.lt g2 rfl).1;have hbt':bt<wP.heap.size:=by omega
   have hPP:P<wP.heap.size:=cL wP _ hbx
   have hS0:Hid (∀ wk,Below wP.heap.size wP.drew wk->wk.cell? ⟨C,0,none⟩=some (.slice (some ⟨g,0,none⟩) (D+1) cp)/\wk.cell? ⟨C,1,none⟩=some (.slice (some ⟨g2,0,none⟩) N q2)/\wk.cell? ⟨P,0,none⟩=some (.string f0)/\wk.cell? ⟨bt,ot+m,none⟩=some (.string tm)):=fun wk Gk=>by
    have G9:Below wP.heap.size wP wk:=Below.trans ((bR wP.heap.size wP).drew) Gk;exact ⟨(G9.cell (p:=⟨C,0,none⟩) hC7).trans c0,(G9.cell (p:=⟨C,1,none⟩) hC7).trans c1,(G9.cell (p:=⟨P,0,none⟩) hPP).trans hbx,(G9.cell (p:=⟨bt,ot+m,none⟩) hbt').trans hct⟩
   have hne1:C ≠ g2:=fun e=>S7.a2 (show some g2=some C by rw [e])
   have hS5:Hid (∀ wk,Below wP.heap.size wP.drew wk->(fun w9=>w9.cell? ⟨C,0,none⟩=some (.slice (some ⟨g,0,none⟩) (D+1) cp)/\w9.cell? ⟨C,1,none⟩=some (.slice (some ⟨g2,0,none⟩) N q2)/\w9.cell? ⟨P,0,none⟩=some (.string f0)/\w9.cell? ⟨bt,ot+m,none⟩=some (.string tm)) (w5s wk g2 (m*5) (.string n0) (.int .i64 n1) (.int .i64 n2) (.int .i64 n3) (.string n4))):=fun wk Gk=>by
    obtain ⟨e0,e1,e2,e3⟩:=hS0.out wk Gk;have gr:=ZcN wk g2 (m*5) (.string n0) (.int .i64 n1) (.int .i64 n2) (.int .i64 n3) (.string n4);exact ⟨Zd gr e0 (by simpa using hne1),Zd gr e1 (by simpa using hne1),Zd gr e2 (by simp;omega),Zd gr e3 (by simp;omega)⟩
   unfold w5s at hS5;simp only at hS5;clear S7 j0 j1 j2 j3 j4 fz7 htx7 CPm hg2 hct hbt hbt' hbx c0 c1 hC7 hPP hloC hlg;go_region_held3 (fun wk=>wk.cell? ⟨C,0,none⟩=some (.slice (some ⟨g,0,none⟩) (D+1) cp)/\wk.cell? ⟨C,1,none⟩=some (.slice (some ⟨g2,0,none⟩) N q2)/\wk.cell? ⟨P,0,none⟩=some (.string f0)/\wk.cell? ⟨bt,ot+m,none⟩=some (.string tm))
    (first | (exact hS0.out _ (bR _ _)) | (exact hS0.out _ Gk) | (exact hS5.out _ Gk))
    (first
     | (go_at_call 28;refine CP9.mono ?_;rintro e wk ⟨rfl,Gk⟩;obtain ⟨Sk,l0,l1,l2,l3,l4,lf⟩:=HK.out wk Gk;have lf0:=lf (m*5);have lf1:=lf (m*5+1);have lf2:=lf (m*5+2);have lf3:=lf (m*5+3);have lf4:=lf (m*5+4)))
   all_goals
    have S8:=HS5.out wk Sk;unfold w5s at S8;go_wp2_with fail
    go_roundw
    case rel=>exact ⟨m+1,by omega,by go_num,S8⟩
    case measure=>simp [intOf];omega
  ·obtain rfl:m=N:=by omega
   have d1:decide ((m:Int)<(m:Int))=false:=by simp
   rw [HIN.out] at S6;obtain ⟨b,a0,a1,r0,r1,z0,z1,hz⟩:=id F7;obtain ⟨Bz,Oz1,Oz2,Rz0,Rz1⟩:=ZaY b S6.o1 S6.o2 hlo r0 r1;have ne9:=S6.ne;have c0:=S6.c0;have c1:=S6.c1;have hC2:=S6.hb;have hzw:w.heap.size<wr.heap.size:=by omega
   clear S6 F7;go_wp2_with fail
   generalize (wr.setCell ⟨w.heap.size+1,0,none⟩ (.slice (some ⟨g,0,none⟩) (D+1) cp)).setCell ⟨w.heap.size+1,1,none⟩ (.slice p2 m q2)=wz at *;exact bodyPost_ret (v:=.tuple #[.agg #[.slice (some ⟨g,0,none⟩) (D+1) cp,.slice p2 m q2],.int .i64 0]) (by simp [results,Tryz.results13,go_sem,Rz0,Rz1]) rfl (HQ.out _ _ _ Oz1 Oz2 ne9 Bz)
theorem Zey (ad af:Option Addr) (cd cf:Nat) (a:Ar.A) (size:Int) (w:World) (h:ArV w ad af a) (hs:SaneA a) (hM:Mx w) :
 Calls Tryz.prog 13 #[av ad cd af cf a,.int .i64 size] w fun e w'=>ArSaid w (Ar.retA a size) (Ar.retE a size) e w':=by
 by_cases hE:Ar.retE a size=0
 ·rw [Ar.ZhF hE,hE];exact Zkv ad af cd cf a size w h hs hM hE
 ·have e:Ar.retA a size=Ar.az:=by unfold Ar.retA;rw [if_neg hE]
  rw [e];unfold Ar.retE at hE |-
  by_cases hc:Ar.chk a=0
  ·rw [if_neg (fun h9=>h9 hc)] at hE |-
   by_cases hz:0<=size/\size<=256
   ·rw [if_pos hz] at hE |-
    by_cases h4:a.dicts.length=4
    ·rw [if_pos h4];exact Zgy ad af cd cf a size w h hs hM hc hz h4
    ·rw [if_neg h4] at hE;exact absurd rfl hE
   ·rw [if_neg hz];exact ZgX ad af cd cf a size w h hs hM hc hz
  ·rw [if_pos hc];exact ZhN ad af cd cf a size w h hs hc
set_option linter.unusedVariables false
theorem Zkh (dict:ByteArray) (ad:Option Addr) (cap:Nat) (l:List Tk.T) (w:World) (hl:SlAt w ad l) (hs:Sane l) :
 Calls Tryz.prog 105 #[.string dict,.slice ad l.length cap] w fun e w'=>e=.returned (.string (Zas dict l))/\Below w.heap.size w w':=by
 have c1:=fun w hl=>ZmZ dict ad cap l w hl hs
 generalize Zas dict l=P at *;generalize Zl dict l=C at *;go_enter Tryz.func105,Tryz.ntmps105
 go_wp2_with fail
 refine (c1 _ hl).mono ?_;rintro e w1 ⟨rfl,G⟩;go_wp2_with fail
 go_ret
 exact ⟨rfl,G⟩
theorem Zhz {dict s:ByteArray} {m:List Tk.T} (hd:dict.size<=256) (hs:s.size<=140737488355328) (hm:Zz dict s=some m) (w:World):Calls Tryz.prog 104 #[.string dict,.string s] w fun e w'=>Below w.heap.size w w'/\∃ ad cap,e=.returned (.tuple #[.slice ad m.length cap,.bool true])/\SlAt w' ad m:=(Zdv dict s w hs).mono fun e w' h=>by
 rw [Zgv hd] at h
 rcases h with ⟨h1,⟨h2,_⟩ | ⟨k,a,c,h2,h3,h4⟩⟩
 ·rw [hm] at h2;cases h2
 ·rw [hm] at h2;cases h2;exact ⟨h1,a,c,h3,h4⟩
theorem ZiX {dict s:ByteArray} (hd:dict.size<=256) (hs:s.size<=140737488355328) (hm:Zz dict s=none) (w:World):Calls Tryz.prog 104 #[.string dict,.string s] w fun e w'=>Below w.heap.size w w'/\e=.returned (.tuple #[.slice none 0 0,.bool false]):=(Zdv dict s w hs).mono fun e w' h=>by
 rw [Zgv hd] at h
 rcases h with ⟨h1,⟨_,h2⟩ | ⟨k,a,c,h2,h3,h4⟩⟩
 ·exact ⟨h1,h2⟩
 ·rw [hm] at h2;cases h2
theorem ZgI {dict s:ByteArray} {m:List Tk.T} (hd:dict.size<=256) (hm:Zz dict s=some m) (ad:Option Addr) (cap:Nat) (w:World) (h:SlAt w ad m):Calls Tryz.prog 105 #[.string dict,.slice ad m.length cap] w fun e w'=>e=.returned (.string (Zas dict m))/\Below w.heap.size w w' :=
 Zkh dict ad cap m w h (Zdd (Zbo (Zem hd hm).2))
theorem ZY {b:ByteArray} (h0:b.size ≠ 0):b.toList.isEmpty=false:=by
 rw [ByteArray.toList_eq,Bool.eq_false_iff];intro e;rw [List.isEmpty_iff] at e;apply h0;have:=congrArg List.length e;rw [Cd.Zf] at this;simpa using this
theorem Zpa {b:ByteArray} (h:0<b.size):Cd.at8 b 0=b[0].toNat:=by unfold Cd.at8;rw [Nm.ZL b 0 h];rfl
theorem Ztc (s:ByteArray) (j:Nat) (hj:j<8):Cd.at8 (s.extract 0 8) j=Cd.at8 s j:=by
 unfold Cd.at8
 congr 2
 simp [ByteArray.data_extract,Array.toList_extract];rw [List.getElem?_take_of_lt hj,Array.getElem?_toList]
theorem ZjF (s:ByteArray) (i:Nat):Bk.ptK s 8 i=Bk.pt (s.extract 0 8) i:=by
 unfold Bk.pt Bk.ptK;by_cases h:i<2*8
 ·rw [if_pos h,if_pos h,Ztc s (i / 2) (by omega)]
 ·rw [if_neg h,if_neg h]
theorem ZeL (dict:ByteArray) (w:World) :
 Calls Tryz.prog 70 #[.string dict,.string ⟨#[]⟩] w fun e w'=>e=.returned (.tuple #[.string ⟨#[]⟩,.bool false])/\Below w.heap.size w w':=by
 go_enter Tryz.func70,Tryz.ntmps70
 go_wp2_with fail
 go_ret2
 exact ⟨rfl,bR _ _⟩
theorem Zlt (dict b S:ByteArray) (w:World) (hd:dict.size<=256) (hb:b.size<=140737488355328) (h0:0<b.size) (hS:b.extract 1 b.size=S) (hx:(b[0].toNat:Int)=0) :
 Calls Tryz.prog 70 #[.string dict,.string b] w fun e w'=>e=.returned (.tuple #[.string S,.bool (decide ((S.size:Int)<=512))])/\Below w.heap.size w w':=by
 have hne:=ZY (b:=b) (by omega);have hb1:(1:Int)<=(b.size:Int):=by omega
 have hb1n:1<=b.size:=by omega
 have hb0:(0:Int)<(b.size:Int):=by omega
 have hbi:(b.size:Int)<=140737488355328:=by omega
 have hs1:=Zp b 1 b.size;rw [hS] at hs1;have hs2:S.size<=140737488355328:=by omega
 clear hs1;go_enter Tryz.func70,Tryz.ntmps70
 go_wp2_with fail
 go_region
 go_wp2_with fail
 go_ret2
 exact ⟨rfl,(bR _ _).drew⟩
theorem Zlw (dict b S:ByteArray) (w:World) (hd:dict.size<=256) (hb:b.size<=140737488355328) (h0:0<b.size) (hS:b.extract 1 b.size=S) (hx:2<(b[0].toNat:Int)) :
 Calls Tryz.prog 70 #[.string dict,.string b] w fun e w'=>e=.returned (.tuple #[.string ⟨#[]⟩,.bool false])/\Below w.heap.size w w':=by
 have hne:=ZY (b:=b) (by omega);have hb1:(1:Int)<=(b.size:Int):=by omega
 have hb1n:1<=b.size:=by omega
 have hb0:(0:Int)<(b.size:Int):=by omega
 have hbi:(b.size:Int)<=140737488355328:=by omega
 have hs1:=Zp b 1 b.size;rw [hS] at hs1;have hs2:S.size<=140737488355328:=by omega
 clear hs1
 obtain ⟨x,hxe⟩:∃ x:Int,(b[0].toNat:Int)=x:=⟨_,rfl⟩
 rw [hxe] at hx;have q0:(x == 0)=false:=by simp;omega
 have q1:(x == 2)=false:=by simp;omega
 have q2:¬ x=0:=by omega
 have q3:¬ x=2:=by omega
 have q4:decide (2<x)=true:=by simp;omega
 go_enter Tryz.func70,Tryz.ntmps70
 go_wp2_with fail
 go_region
 go_wp2_with fail
 go_ret2
 exact ⟨rfl,(bR _ _).drew⟩
theorem Zii (dict b S:ByteArray) (w:World) (hd:dict.size<=256) (hb:b.size<=140737488355328) (h0:0<b.size) (hS:b.extract 1 b.size=S) (hx:(b[0].toNat:Int)=1) (hm:Zz dict S=none) :
 Calls Tryz.prog 70 #[.string dict,.string b] w fun e w'=>e=.returned (.tuple #[.string ⟨#[]⟩,.bool false])/\Below w.heap.size w w':=by
 have hne:=ZY (b:=b) (by omega);have hb1:(1:Int)<=(b.size:Int):=by omega
 have hb1n:1<=b.size:=by omega
 have hb0:(0:Int)<(b.size:Int):=by omega
 have hbi:(b.size:Int)<=140737488355328:=by omega
 have hs1:=Zp b 1 b.size;rw [hS] at hs1;have hs2:S.size<=140737488355328:=by omega
 clear hs1;have c1:=fun w=>ZiX hd (by omega) hm w
 clear hm;go_enter Tryz.func70,Tryz.ntmps70
 go_wp2_with fail
 go_region
 go_wp2_with fail
 refine (c1 _).mono ?_;rintro e w1 ⟨G1,rfl⟩;have B1:Below w.heap.size w w1:=(bR _ _).drew.trans G1;go_wp2_with fail
 go_ret2
 exact ⟨rfl,B1⟩
theorem ZhU (dict b S:ByteArray) (w:World) (hd:dict.size<=256) (hb:b.size<=140737488355328) (h0:0<b.size) (hS:b.extract 1 b.size=S) (hx:(b[0].toNat:Int)=1) (m:List Tk.T) (hm:Zz dict S=some m) :
 Calls Tryz.prog 70 #[.string dict,.string b] w fun e w'=>e=.returned (.tuple #[.string (Zas dict m),.bool true])/\Below w.heap.size w w':=by
 have hne:=ZY (b:=b) (by omega);have hb1:(1:Int)<=(b.size:Int):=by omega
 have hb1n:1<=b.size:=by omega
 have hb0:(0:Int)<(b.size:Int):=by omega
 have hbi:(b.size:Int)<=140737488355328:=by omega
 have hs1:=Zp b 1 b.size;rw [hS] at hs1;have hs2:S.size<=140737488355328:=by omega
 clear hs1;have c1:=fun w=>Zhz hd (by omega) hm w
 have c2:=fun ad cap w h=>ZgI hd hm ad cap w h
 clear hm;generalize Zas dict m=P at *;go_enter Tryz.func70,Tryz.ntmps70
 go_wp2_with fail
 go_region
 go_wp2_with fail
 refine (c1 _).mono ?_;rintro e w1 ⟨G1,ad,cap,rfl,S1⟩;have B1:Below w.heap.size w w1:=(bR _ _).drew.trans G1;go_wp2_with fail
 refine (c2 ad cap _ S1).mono ?_;rintro e w2 ⟨rfl,G2⟩;have B2:=bch B1 G2 (nl _);go_wp2_with fail
 go_ret2
 exact ⟨rfl,B2⟩
theorem Ziw (dict b S:ByteArray) (w:World) (hd:dict.size<=256) (hb:b.size<=140737488355328) (h0:0<b.size) (hS:b.extract 1 b.size=S) (hx:(b[0].toNat:Int)=2) (h8:S.size<8) :
 Calls Tryz.prog 70 #[.string dict,.string b] w fun e w'=>e=.returned (.tuple #[.string ⟨#[]⟩,.bool false])/\Below w.heap.size w w':=by
 have hne:=ZY (b:=b) (by omega);have hb1:(1:Int)<=(b.size:Int):=by omega
 have hb1n:1<=b.size:=by omega
 have hb0:(0:Int)<(b.size:Int):=by omega
 have hbi:(b.size:Int)<=140737488355328:=by omega
 have hs1:=Zp b 1 b.size;rw [hS] at hs1;have hs2:S.size<=140737488355328:=by omega
 clear hs1;have h8':(S.size:Int)<8:=by omega
 have h8d:decide ((S.size:Int)<8)=true:=by simp;omega
 go_enter Tryz.func70,Tryz.ntmps70
 go_wp2_with fail
 go_region
 go_wp2_with fail
 go_ret2
 exact ⟨rfl,(bR _ _).drew⟩
end Go.Proofs.YtbjbjbpgmojcbacGreat
