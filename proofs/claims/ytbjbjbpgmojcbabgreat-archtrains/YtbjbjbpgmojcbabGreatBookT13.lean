/- A part of the proof: what it leans on. -/
import Derived.Test.YtbjbjbpgmojcbabGreatBookT01
import Derived.Test.YtbjbjbpgmojcbabGreatBookT02
import Derived.Test.YtbjbjbpgmojcbabGreatBookT06
import Derived.Test.YtbjbjbpgmojcbabGreatBookT07
import Derived.Test.YtbjbjbpgmojcbabGreatBookT08
import Derived.Test.YtbjbjbpgmojcbabGreatBookT09
import Derived.Test.YtbjbjbpgmojcbabGreatBookT10
import Derived.Test.YtbjbjbpgmojcbabGreatBookT11
import Derived.Test.YtbjbjbpgmojcbabGreatBookT12
set_option maxRecDepth 8000
set_option maxHeartbeats 8000000
namespace Go.Proofs.YtbjbjbpgmojcbabGreat
open Go.RowKit
theorem retrain_ok (ad af:Option Addr) (cd cf:Nat) (a:Ar.A) (size:Int) (w:World) (h:ArV w ad af a) (hs:SaneA a) (hM:Mx w) (hE:Ar.retE a size=0) :
 Calls Tryz.prog 25 #[av ad cd af cf a,.int .i64 size] w fun e w'=>ArSaid w ⟨Ar.retD a size,a.files.map (Ar.reF a size)⟩ 0 e w':=by
 obtain ⟨hc,hzz1,hzz2,h4⟩:=Ar.retE_zero hE
 have hz:0<=size/\size<=256:=⟨hzz1,hzz2⟩
 obtain ⟨i0,hi,hz0,hz1,hz2⟩:=info_parts (P:=Tryz.prog) (e:=9) (z:=.string ⟨#[]⟩) (size:=1) (bytes:=16) (by kernel_rfl)
 obtain ⟨m1,m2,m3⟩:=Ar.many_iff.1 (Ar.chk_zero.1 hc).1
 have C1:Hid (∀ w',Below w.heap.size w w'->Calls Tryz.prog 61 #[av ad cd af cf a] w' fun e w2=>TxtSaid a w' e w2):=fun w' h9=>texts_any ad af cd cf a w' (h.below h9) hs
 have hT:=Ar.txs_many hc
 have C2:Hid (∀ w' adt capt,Below w.heap.size w w'->TxSl w' adt (Ar.txs a)->Calls Tryz.prog 66 #[.slice adt (Ar.txs a).length capt,.int .i64 size] w' fun e w2=>e=.returned (.tuple #[.string (Tr.trn (Ar.txs a) size.toNat),.int .i64 0])/\Below w'.heap.size w' w2):=fun w' adt capt h8 h9=>by
  have:=train_any (Ar.txs a) size adt capt w' h9 (fun i=>by
   by_cases hi:i<(Ar.txs a).length
   · have e:Tr.xa (Ar.txs a) i=(Ar.txs a)[i]:=by simp [Tr.xa,hi]
     rw [e]
     exact Nat.le_trans (hT.2 _ (List.getElem_mem hi)) (by decide)
   · have e:Tr.xa (Ar.txs a) i=⟨#[]⟩:=by simp [Tr.xa,hi]
     rw [e];exact Nat.zero_le _) (hM.below h8)
  have eE:Tr.tnE (Ar.txs a) size=0:=by unfold Tr.tnE;rw [Ar.txs_none hc,if_neg (by decide),if_pos hz]
  have eD:Tr.tnD (Ar.txs a) size=Tr.trn (Ar.txs a) size.toNat:=by unfold Tr.tnD;rw [if_pos eE]
  rw [eE,eD] at this
  exact this
 have C6:Hid (∀ w',Below w.heap.size w w'->Calls Tryz.prog 53 #[av ad cd af cf a] w' fun e w2=>∃ v1 v2,e=.returned (.agg #[v1,v2])/\ArOwn w'.heap.size w2 v1 v2 a/\Below w'.heap.size w' w2):=fun w' h9=>clone_arch ad af cd cf a w' (h.below h9) hs m1 m2
 have hmr:=Ar.many_ret hE
 have hrl:(Ar.retD a size).length=a.dicts.length+1:=by unfold Ar.retD;rw [List.length_append];rfl
 have CP:Hid (∀ w' adx cdx afx cfx m,m<a.files.length->TxSl w' adx (Ar.retD a size)->Calls Tryz.prog 52 #[.agg #[.slice adx (a.dicts.length+1) cdx,.slice afx a.files.length cfx],.string (Ar.fa a.files m).name,.string (Tr.xa (Ar.txs a) m),.int .i64 ((a.dicts.length:Int)+1)] w' fun e w2=>e=.returned (.tuple #[.agg #[.string (Ar.reF a size (Ar.fa a.files m)).name,.int .i64 (Ar.reF a size (Ar.fa a.files m)).dict,.int .i64 (Ar.reF a size (Ar.fa a.files m)).size,.int .i64 (Ar.reF a size (Ar.fa a.files m)).sum,.string (Ar.reF a size (Ar.fa a.files m)).blk],.int .i64 0])/\Below w'.heap.size w' w2):=fun w' adx cdx afx cfx m hm hx=>by
  have hmem:Ar.fa a.files m ∈ a.files:=by rw [Ar.fa_get hm];exact List.getElem_mem hm
  have e:Tr.xa (Ar.txs a) m=Ar.tx a.dicts (Ar.fa a.files m):=by unfold Ar.txs;simp [Tr.xa,Ar.fa,hm]
  have:=archPack_any adx afx cdx cfx ⟨Ar.retD a size,a.files⟩ (Ar.fa a.files m).name (Tr.xa (Ar.txs a) m) ((a.dicts.length:Int)+1) w' hx (by show (Ar.retD a size).length<=4;omega) (Ar.dct_size hmr _) (by show Ar.has (Ar.retD a size) _=true;unfold Ar.has;rw [hrl];exact decide_eq_true ⟨by omega,by omega⟩) (by rw [e];exact Ar.tx_size hc hmem) (hs.nm m)
  unfold av at this
  simp only [hrl] at this
  rw [e] at this |-
  exact this
 have HQ:Hid (∀ v1 v2 w',w'.ownsRow w.heap.size 9 1 v1 (a.dicts.length+1) (a.dicts.map Value.string++[.string (Tr.trn (Ar.txs a) size.toNat)])->w'.ownsRow w.heap.size 46 5 v2 a.files.length (fcs (a.files.map (Ar.reF a size)))->(∀ j,v1.ownBlock=some j->v2.ownBlock ≠ some j)->Below w.heap.size w w'->ArSaid w ⟨Ar.retD a size,a.files.map (Ar.reF a size)⟩ 0 (.returned (.tuple #[.agg #[v1,v2],.int .i64 0])) w'):=fun v1 v2 w' h1 h2 h3 h4=>⟨v1,v2,rfl,⟨by
  show w'.ownsRow _ _ _ _ (Ar.retD a size).length ((Ar.retD a size).map Value.string)
  have e:(Ar.retD a size).map Value.string=a.dicts.map Value.string++[.string (Tr.trn (Ar.txs a) size.toNat)]:=by unfold Ar.retD;rw [List.map_append];rfl
  rw [hrl,e];exact h1,by show w'.ownsRow _ _ _ _ (a.files.map (Ar.reF a size)).length _;rw [List.length_map];exact h2,h3⟩,h4⟩
 generalize ArSaid w ⟨Ar.retD a size,a.files.map (Ar.reF a size)⟩ 0=Q at *
 have HTx:Hid (∀ lo w' ad' cap',w'.ownsRow lo 9 1 (.slice ad' (a.dicts.length+1) cap') (a.dicts.length+1) (a.dicts.map Value.string++[.string (Tr.trn (Ar.txs a) size.toNat)])->TxSl w' ad' (Ar.retD a size)):=fun lo w' ad' cap' h1=>by
  have e:(Ar.retD a size).map Value.string=a.dicts.map Value.string++[.string (Tr.trn (Ar.txs a) size.toNat)]:=by unfold Ar.retD;rw [List.map_append];rfl
  rw [<-hrl,<-e] at h1
  obtain ⟨ad2,cap2,e2,_,h5⟩:=tx_owns h1
  simp only [Value.slice.injEq] at e2
  obtain ⟨rfl,_,rfl⟩:=e2
  exact TxFar.sl h5
 have HI:Hid (∀ m,m<a.files.length->(Ar.reI a size m).length=a.files.length/\Ar.fa (Ar.reI a size m) m=Ar.fa a.files m/\fcs (Ar.reI a size (m+1))=fcs ((Ar.reI a size m).take m++Ar.reF a size (Ar.fa a.files m) :: (Ar.reI a size m).drop (m+1))):=fun m hm=>⟨Ar.reI_len (Nat.le_of_lt hm),(Ar.reI_at hm).1,by rw [(Ar.reI_at hm).2]⟩
 have HIN:Hid (fcs (Ar.reI a size a.files.length)=fcs (a.files.map (Ar.reF a size))):=by show _=_;rw [Ar.reI_end]
 have HA:Hid (∀ lo w' v1 v2,ArOwn lo w' v1 v2 a->w'.ownsRow lo 9 1 v1 a.dicts.length (a.dicts.map Value.string)/\w'.ownsRow lo 46 5 v2 a.files.length (fcs (Ar.reI a size 0))/\(∀ j,v1.ownBlock=some j->v2.ownBlock ≠ some j)):=fun lo w' v1 v2 h9=>⟨h9.o1,by rw [Ar.reI_zero];exact h9.o2,h9.ne⟩
 have HTl:Hid ((Ar.txs a).length=a.files.length):=by show _=_;unfold Ar.txs;rw [List.length_map]
 unfold TxtSaid at C1
 rw [hc] at C1
 unfold av at C1 C6 |-
 generalize hTX:Ar.txs a=TX at *
 generalize hXX:Tr.trn TX size.toNat=X at *
 have HXX:Hid (Tr.trn TX size.toNat=X):=hXX
 have xz:X.size<=256:=by
  have:=(Tr.trn_good TX size.toNat).most
  rw [hXX] at this
  omega
 clear hXX hTX
 generalize a.dicts.map Value.string=XS at *
 clear h hs hM hc hz hT hmr hrl m3 hE
 generalize a.dicts.length=D at *
 generalize a.files.length=N at *
 have hDi:(D:Int)<=4:=by omega
 have hNi:(N:Int)<=12:=by omega
 have d4:((D:Int) == 4)=false:=by simp;omega
 have d4':decide ((D:Int)=4)=false:=decide_eq_false (by omega)
 have d4'':¬ (D:Int)=4:=by omega
 go_enter Tryz.func25,Tryz.ntmps25
 go_wp2_with fail
 refine (C1.out _ (Fr.start w _ _).b).mono ?_
 rintro e w1 ⟨adt,capt,L,rfl,_,hfar,hLx,_,G1⟩
 have hLT:=hLx (by trivial)
 subst hLT
 have F1:=(Fr.start w _ _).next G1
 clear G1 hLx C1
 have hsl:=TxFar.sl hfar
 obtain ⟨b,a0,a1,r0,r1,z0,z1,hz⟩:=id F1
 have C2':=C2.out w1 adt capt b hsl
 go_wp2_with fail
 refine C2'.mono ?_
 rintro e w2 ⟨rfl,G2⟩
 have F2:=F1.next G2
 have HX:Hid (∀ w',Below w2.heap.size w2 w'->∀ m,m<N->∃ b off,adt=some ⟨b,off,none⟩/\b<w2.heap.size/\w'.cell? ⟨b,off+m,none⟩=some (.string (Tr.xa L m))):=fun w' h9 m hm=>by
  obtain ⟨b,off,e1,e2,e3⟩:=(hsl.below G2).at (i:=m) (by rw [HTl.out];exact hm)
  exact ⟨b,off,e1,e2,(h9.cell (p:=⟨b,off+m,none⟩) e2).trans e3⟩
 clear b a0 a1 r0 r1 z0 z1 hz C2 C2' hsl hfar G2 F1
 obtain ⟨b,a0,a1,r0,r1,z0,z1,hz⟩:=id F2
 go_wp2_with fail
 refine (C6.out _ F2.b).mono ?_
 rintro e w6 ⟨v1,v2,rfl,O6,G6⟩
 have F6:=F2.next G6
 obtain ⟨o1,o2,o3⟩:=HA.out _ _ _ _ O6
 have hlo:w.heap.size+1<w2.heap.size:=F2.hz
 have hl0:w2.heap.size<=w6.heap.size:=G6.size
 have HX6:Hid (∀ w',Below w2.heap.size w6 w'->∀ m,m<N->∃ b off,adt=some ⟨b,off,none⟩/\b<w2.heap.size/\w'.cell? ⟨b,off+m,none⟩=some (.string (Tr.xa L m))):=fun w' h9 m hm=>HX.out w' (G6.trans h9) m hm
 generalize w2.heap.size=lo at o1 o2 hlo hl0 HX6
 clear G6 O6 HA b a0 a1 r0 r1 z0 z1 hz C6 HX F2
 obtain ⟨p1,q1,rfl,_⟩:=own_slice o1
 obtain ⟨p2,q2,rfl,_⟩:=own_slice o2
 obtain ⟨b,a0,a1,r0,r1,z0,z1,hz⟩:=id F6
 have hz6:w.heap.size<w6.heap.size:=by omega
 have S0:CpS w6 (w6.alloc (.cells #[.slice p1 D q1,.slice p2 N q2] 25 (0,0))) w6.heap.size lo (.slice p1 D q1) (.slice p2 N q2) D N XS (fcs (Ar.reI a size 0)) :=
  ⟨World.cell?_alloc_new _ _ _ 0,World.cell?_alloc_new _ _ _ 1,World.frozen?_alloc_at _ _ _ _ rfl,World.frozen?_alloc_at _ _ _ _ rfl,o1.alloc _,o2.alloc _,o3,fun e=>by have:=(o1.lt _ e).2;omega,fun e=>by have:=(o2.lt _ e).2;omega,hl0,by simp,(Below.refl _ _).alloc hl0 _⟩
 clear o1 o2 o3
 have hnw:∀ j u,[Value.string X][j]?=some u->((w6.alloc (.cells #[.slice p1 D q1,.slice p2 N q2] 25 (0,0))).alloc (.cells #[.string X] 9 (0,0))).cell? ((⟨w6.heap.size+1,0,none⟩:Addr).add j)=some u:=by
  intro j u hj
  rw [addr_add,(box2 w6 _ #[.string X] _ _).2]
  simpa using hj
 go_wp2_with (first
  | (at_builtin;refine wpList_append_lies _ rfl _ _ 22 rfl lo 9 i0 (.string ⟨#[]⟩) 1 16 Tryz.underlying22 hi hz0 hz1 hz2 rfl (by decide) (.slice p1 D q1) _ _ rfl (S0.o1.alloc _) ⟨w6.heap.size+1,0,none⟩ 1 1 [.string X] rfl rfl hnw (by simp [Value.oneCell']) (by decide) (by unfold maxLen;omega) (by omega) (by simp;omega) _ rfl ?_;intro g cp w5 hown5 hgrow5 hat5 hlt5;obtain ⟨⟨⟨qq1,qq2⟩,S5⟩,K5⟩:=S0.put1 hgrow5 hown5 hat5;have c15:=S5.c1;clear hgrow5 hown5 hat5 hlt5 K5)
  | fail)
 clear S0 hnw c15 qq1 qq2 b a0 a1 r0 r1 z0 z1 hz
 generalize (w5.setCell ⟨w6.heap.size,0,none⟩ (.slice (some ⟨g,0,none⟩) (D+1) cp))=wq at *
 generalize w6.heap.size=C at *
 go_loopw [47] (fun i wr=>∃ m:Nat,m<=N/\i=.int .i64 m/\CpS w6 wr C lo (.slice (some ⟨g,0,none⟩) (D+1) cp) (.slice p2 N q2) (D+1) N (XS++[.string X]) (fcs (Ar.reI a size m))) (fun i _=>N - (intOf i).toNat)
 case atStart=>exact ⟨0,by omega,rfl,S5⟩
 case round =>
  clear S5
  obtain ⟨m,hm2,rfl,S6⟩:=hrel
  have F7:=F6.keep S6.bel hlo
  by_cases hlt:m<N
  · have d2:decide ((m:Int)<(N:Int))=true:=by simp;omega
    have d2':decide (m<N)=true:=by simp;omega
    have hmi:(m:Int)<(N:Int):=by omega
    have hmL:(m:Int)<(L.length:Int):=by rw [HTl.out];exact hmi
    have hmL':m<L.length:=by rw [HTl.out];exact hlt
    rcases S6.o2.2 with ⟨_,h0⟩ | ⟨g2,cap2,cur2,e,_⟩
    · omega
    simp only [Value.slice.injEq] at e
    obtain ⟨rfl,_,rfl⟩:=e
    obtain ⟨hIl,hIf,hIs⟩:=HI.out m hlt
    have HIs:Hid (fcs (Ar.reI a size (m+1))=fcs ((Ar.reI a size m).take m++Ar.reF a size (Ar.fa a.files m) :: (Ar.reI a size m).drop (m+1))):=hIs
    have hat:=own_at (i:=m) (fs:=Ar.reI a size m) (w:=wr) (lo:=lo) (g:=g2) (cap:=q2) (by rw [hIl];exact S6.o2) (by omega)
    rw [hIf] at hat
    have x0:wr.cell? ⟨g2,m*5,none⟩=some (.string (Ar.fa a.files m).name):=hat.1 0 (by omega)
    have x1:wr.cell? ⟨g2,m*5+1,none⟩=some (.int .i64 (Ar.fa a.files m).dict):=hat.1 1 (by omega)
    have x2:wr.cell? ⟨g2,m*5+2,none⟩=some (.int .i64 (Ar.fa a.files m).size):=hat.1 2 (by omega)
    have x3:wr.cell? ⟨g2,m*5+3,none⟩=some (.int .i64 (Ar.fa a.files m).sum):=hat.1 3 (by omega)
    have x4:wr.cell? ⟨g2,m*5+4,none⟩=some (.string (Ar.fa a.files m).blk):=hat.1 4 (by omega)
    have hg2:g2<wr.heap.size:=(S6.o2.lt g2 rfl).2
    have y:=hat.2
    have CPm:=fun w' h9=>CP.out w' (some ⟨g,0,none⟩) cp (some ⟨g2,0,none⟩) q2 m hlt h9
    have HS5:Hid (∀ wk,CpS w6 wk C lo (.slice (some ⟨g,0,none⟩) (D+1) cp) (.slice (some ⟨g2,0,none⟩) N q2) (D+1) N (XS++[.string X]) (fcs (Ar.reI a size m))->CpS w6 (w5s wk g2 (m*5) (.string (Ar.reF a size (Ar.fa a.files m)).name) (.int .i64 (Ar.reF a size (Ar.fa a.files m)).dict) (.int .i64 (Ar.reF a size (Ar.fa a.files m)).size) (.int .i64 (Ar.reF a size (Ar.fa a.files m)).sum) (.string (Ar.reF a size (Ar.fa a.files m)).blk)) C lo (.slice (some ⟨g,0,none⟩) (D+1) cp) (.slice (some ⟨g2,0,none⟩) N q2) (D+1) N (XS++[.string X]) (fcs (Ar.reI a size (m+1)))):=fun wk h9=>by
     rw [<-hIl] at h9
     have:=CpS.set5 (Ar.reF a size (Ar.fa a.files m)) h9 (i:=m) (by omega)
     rw [hIl,<-hIs] at this
     exact this
    have htx:=HTx.out lo wr (some ⟨g,0,none⟩) cp S6.o1
    clear hIs hIf hIl hat HIs
    generalize (Ar.reF a size (Ar.fa a.files m)).name=n0 at *
    generalize (Ar.reF a size (Ar.fa a.files m)).dict=n1 at *
    generalize (Ar.reF a size (Ar.fa a.files m)).size=n2 at *
    generalize (Ar.reF a size (Ar.fa a.files m)).sum=n3 at *
    generalize (Ar.reF a size (Ar.fa a.files m)).blk=n4 at *
    generalize (Ar.fa a.files m).name=f0 at *
    generalize (Ar.fa a.files m).dict=f1 at *
    generalize (Ar.fa a.files m).size=f2 at *
    generalize (Ar.fa a.files m).sum=f3 at *
    generalize (Ar.fa a.files m).blk=f4 at *
    go_wp2_with fail
    have S7:=S6.below ((Below.refl _ _).alloc (Nat.le_refl _) (.cells #[.string f0,.int .i64 f1,.int .i64 f2,.int .i64 f3,.string f4] 46 (0,0)))
    have hbx:(wr.alloc (.cells #[.string f0,.int .i64 f1,.int .i64 f2,.int .i64 f3,.string f4] 46 (0,0))).cell? ⟨wr.heap.size,0,none⟩=some (.string f0):=World.cell?_alloc_new _ _ _ 0
    have htx7:=htx.below ((Below.refl _ _).alloc (Nat.le_refl _) (.cells #[.string f0,.int .i64 f1,.int .i64 f2,.int .i64 f3,.string f4] 46 (0,0)))
    have k:=fun (p:Addr) (hp:p.block<wr.heap.size)=>World.cell?_alloc_lt wr (.cells #[.string f0,.int .i64 f1,.int .i64 f2,.int .i64 f3,.string f4] 46 (0,0)) p hp
    have j0:=(k ⟨g2,m*5,none⟩ hg2).trans x0
    have j1:=(k ⟨g2,m*5+1,none⟩ hg2).trans x1
    have j2:=(k ⟨g2,m*5+2,none⟩ hg2).trans x2
    have j3:=(k ⟨g2,m*5+3,none⟩ hg2).trans x3
    have j4:=(k ⟨g2,m*5+4,none⟩ hg2).trans x4
    have fz7:∀ o,(wr.alloc (.cells #[.string f0,.int .i64 f1,.int .i64 f2,.int .i64 f3,.string f4] 46 (0,0))).frozen? ⟨g2,o,none⟩=false:=fun o=>by rw [World.frozen?_alloc_past _ _ _ hg2];exact y o
    have hg27:g2<(wr.alloc (.cells #[.string f0,.int .i64 f1,.int .i64 f2,.int .i64 f3,.string f4] 46 (0,0))).heap.size:=by simp;omega
    generalize (wr.alloc (.cells #[.string f0,.int .i64 f1,.int .i64 f2,.int .i64 f3,.string f4] 46 (0,0)))=wP at *
    generalize wr.heap.size=P at *
    obtain ⟨bt,ot,rfl,hbt,hct⟩:=HX6.out wP S7.bel m hlt
    have c0:=S7.c0
    have c1:=S7.c1
    clear x0 x1 x2 x3 x4 y k S6 htx F7
    generalize Tr.xa L m=tm at *
    have CP9:=CPm wP.drew (htx7.below ((Below.refl _ _).drew))
    have HK:Hid (∀ wk,Below wP.heap.size wP.drew wk->CpS w6 wk C lo (.slice (some ⟨g,0,none⟩) (D+1) cp) (.slice (some ⟨g2,0,none⟩) N q2) (D+1) N (XS++[.string X]) (fcs (Ar.reI a size m))/\wk.cell? ⟨g2,m*5,none⟩=some (.string f0)/\wk.cell? ⟨g2,m*5+1,none⟩=some (.int .i64 f1)/\wk.cell? ⟨g2,m*5+2,none⟩=some (.int .i64 f2)/\wk.cell? ⟨g2,m*5+3,none⟩=some (.int .i64 f3)/\wk.cell? ⟨g2,m*5+4,none⟩=some (.string f4)/\∀ o,wk.frozen? ⟨g2,o,none⟩=false):=fun wk Gk=>by
     have G9:Below wP.heap.size wP wk:=Below.trans ((Below.refl wP.heap.size wP).drew) Gk
     exact ⟨S7.below G9,(G9.cell (p:=⟨g2,m*5,none⟩) hg27).trans j0,(G9.cell (p:=⟨g2,m*5+1,none⟩) hg27).trans j1,(G9.cell (p:=⟨g2,m*5+2,none⟩) hg27).trans j2,(G9.cell (p:=⟨g2,m*5+3,none⟩) hg27).trans j3,(G9.cell (p:=⟨g2,m*5+4,none⟩) hg27).trans j4,fun o=>(G9.frozen (p:=⟨g2,o,none⟩) hg27).trans (fz7 o)⟩
    have hC7:C<wP.heap.size:=S7.hb
    have hloC:lo<=C:=S7.hC
    have hlg:lo<=g2:=(S7.o2.lt g2 rfl).1
    have hbt':bt<wP.heap.size:=by omega
    have hPP:P<wP.heap.size:=World.block_lt_of_cell? wP _ hbx
    have hS0:Hid (∀ wk,Below wP.heap.size wP.drew wk->wk.cell? ⟨C,0,none⟩=some (.slice (some ⟨g,0,none⟩) (D+1) cp)/\wk.cell? ⟨C,1,none⟩=some (.slice (some ⟨g2,0,none⟩) N q2)/\wk.cell? ⟨P,0,none⟩=some (.string f0)/\wk.cell? ⟨bt,ot+m,none⟩=some (.string tm)):=fun wk Gk=>by
     have G9:Below wP.heap.size wP wk:=Below.trans ((Below.refl wP.heap.size wP).drew) Gk
     exact ⟨(G9.cell (p:=⟨C,0,none⟩) hC7).trans c0,(G9.cell (p:=⟨C,1,none⟩) hC7).trans c1,(G9.cell (p:=⟨P,0,none⟩) hPP).trans hbx,(G9.cell (p:=⟨bt,ot+m,none⟩) hbt').trans hct⟩
    have hne1:C ≠ g2:=fun e=>S7.a2 (show some g2=some C by rw [e])
    have hS5:Hid (∀ wk,Below wP.heap.size wP.drew wk->(fun w9=>w9.cell? ⟨C,0,none⟩=some (.slice (some ⟨g,0,none⟩) (D+1) cp)/\w9.cell? ⟨C,1,none⟩=some (.slice (some ⟨g2,0,none⟩) N q2)/\w9.cell? ⟨P,0,none⟩=some (.string f0)/\w9.cell? ⟨bt,ot+m,none⟩=some (.string tm)) (w5s wk g2 (m*5) (.string n0) (.int .i64 n1) (.int .i64 n2) (.int .i64 n3) (.string n4))):=fun wk Gk=>by
     obtain ⟨e0,e1,e2,e3⟩:=hS0.out wk Gk
     have gr:=w5s_grown wk g2 (m*5) (.string n0) (.int .i64 n1) (.int .i64 n2) (.int .i64 n3) (.string n4)
     exact ⟨cell_keep gr e0 (by simpa using hne1),cell_keep gr e1 (by simpa using hne1),cell_keep gr e2 (by simp;omega),cell_keep gr e3 (by simp;omega)⟩
    unfold w5s at hS5
    simp only at hS5
    clear S7 j0 j1 j2 j3 j4 fz7 htx7 CPm hg2 hct hbt hbt' hbx c0 c1 hC7 hPP hloC hlg
    go_region_held3 (fun wk=>wk.cell? ⟨C,0,none⟩=some (.slice (some ⟨g,0,none⟩) (D+1) cp)/\wk.cell? ⟨C,1,none⟩=some (.slice (some ⟨g2,0,none⟩) N q2)/\wk.cell? ⟨P,0,none⟩=some (.string f0)/\wk.cell? ⟨bt,ot+m,none⟩=some (.string tm))
     (first | (exact hS0.out _ (Below.refl _ _)) | (exact hS0.out _ Gk) | (exact hS5.out _ Gk))
     (first
      | (go_at_call 52;refine CP9.mono ?_;rintro e wk ⟨rfl,Gk⟩;obtain ⟨Sk,l0,l1,l2,l3,l4,lf⟩:=HK.out wk Gk;have lf0:=lf (m*5);have lf1:=lf (m*5+1);have lf2:=lf (m*5+2);have lf3:=lf (m*5+3);have lf4:=lf (m*5+4)))
    all_goals
     have S8:=HS5.out wk Sk
     unfold w5s at S8
     go_wp2_with fail
     go_roundw
     case rel=>exact ⟨m+1,by omega,by go_num,S8⟩
     case measure=>simp [intOf];omega
  · obtain rfl:m=N:=by omega
    have d1:decide ((m:Int)<(m:Int))=false:=by simp
    rw [HIN.out] at S6
    obtain ⟨b,a0,a1,r0,r1,z0,z1,hz⟩:=id F7
    obtain ⟨Bz,Oz1,Oz2,Rz0,Rz1⟩:=put_end b S6.o1 S6.o2 hlo r0 r1
    have ne9:=S6.ne
    have c0:=S6.c0
    have c1:=S6.c1
    have hC2:=S6.hb
    have hzw:w.heap.size<wr.heap.size:=by omega
    clear S6 F7
    go_wp2_with fail
    generalize (wr.setCell ⟨w.heap.size+1,0,none⟩ (.slice (some ⟨g,0,none⟩) (D+1) cp)).setCell ⟨w.heap.size+1,1,none⟩ (.slice p2 m q2)=wz at *
    exact bodyPost_ret (v:=.tuple #[.agg #[.slice (some ⟨g,0,none⟩) (D+1) cp,.slice p2 m q2],.int .i64 0]) (by simp [results,Tryz.results25,go_sem,Rz0,Rz1]) rfl (HQ.out _ _ _ Oz1 Oz2 ne9 Bz)
theorem archRetrain_any (ad af:Option Addr) (cd cf:Nat) (a:Ar.A) (size:Int) (w:World) (h:ArV w ad af a) (hs:SaneA a) (hM:Mx w) :
 Calls Tryz.prog 25 #[av ad cd af cf a,.int .i64 size] w fun e w'=>ArSaid w (Ar.retA a size) (Ar.retE a size) e w':=by
 by_cases hE:Ar.retE a size=0
 · rw [Ar.retA_is hE,hE]
   exact retrain_ok ad af cd cf a size w h hs hM hE
 · have e:Ar.retA a size=Ar.az:=by unfold Ar.retA;rw [if_neg hE]
   rw [e]
   unfold Ar.retE at hE |-
   by_cases hc:Ar.chk a=0
   · rw [if_neg (fun h9=>h9 hc)] at hE |-
     by_cases hz:0<=size/\size<=256
     · rw [if_pos hz] at hE |-
       by_cases h4:a.dicts.length=4
       · rw [if_pos h4]
         exact retrain_full ad af cd cf a size w h hs hM hc hz h4
       · rw [if_neg h4] at hE;exact absurd rfl hE
     · rw [if_neg hz]
       exact retrain_size ad af cd cf a size w h hs hM hc hz
   · rw [if_pos hc]
     exact retrain_chk ad af cd cf a size w h hs hc
end Go.Proofs.YtbjbjbpgmojcbabGreat
namespace Go.Proofs.YtbjbjbpgmojcbabGreat
open Go.RowKit
structure Bx (w:World) (b:Nat) (x y:Value):Prop where
 c0:w.cell? ⟨b,0,none⟩=some x
 c1:w.cell? ⟨b,1,none⟩=some y
 f0:w.frozen? ⟨b,0,none⟩=false
 f1:w.frozen? ⟨b,1,none⟩=false
 lt:b<w.heap.size
theorem Bx.next {w w':World} {b:Nat} {x y:Value} (h:Bx w b x y) (G:Below w.heap.size w w'):Bx w' b x y :=
 ⟨(G.cell (p:=⟨b,0,none⟩) h.lt).trans h.c0,(G.cell (p:=⟨b,1,none⟩) h.lt).trans h.c1,(G.frozen (p:=⟨b,0,none⟩) h.lt).trans h.f0,(G.frozen (p:=⟨b,1,none⟩) h.lt).trans h.f1,Nat.lt_of_lt_of_le h.lt G.size⟩
theorem Bx.new (w:World) (x y:Value):Bx (w.alloc (.cells #[x,y] 25 (0,0))) w.heap.size x y :=
 ⟨World.cell?_alloc_new _ _ _ 0,World.cell?_alloc_new _ _ _ 1,World.frozen?_alloc_at _ _ _ _ rfl,World.frozen?_alloc_at _ _ _ _ rfl,by simp⟩
theorem Bx.set {w:World} {b:Nat} {x y u v:Value} (h:Bx w b x y):Bx ((w.setCell ⟨b,0,none⟩ u).setCell ⟨b,1,none⟩ v) b u v:=by
 refine ⟨?_,?_,?_,?_,?_⟩
 · exact (World.cell?_setCell_other _ _ _ _ (by intro e;have:=congrArg Addr.off e;simp at this)).trans (World.cell?_setCell_same _ _ _ h.c0)
 · exact World.cell?_setCell_same _ _ _ ((World.cell?_setCell_other _ _ _ _ (by intro e;have:=congrArg Addr.off e;simp at this)).trans h.c1)
 · rw [World.frozen?_setCell,World.frozen?_setCell];exact h.f0
 · rw [World.frozen?_setCell,World.frozen?_setCell];exact h.f1
 · have:=h.lt;simp [World.setCell];omega
theorem Bx.far {w:World} {b c:Nat} {x y:Value} (h:Bx w b x y) (hne:b ≠ c) (u v:Value):Bx ((w.setCell ⟨c,0,none⟩ u).setCell ⟨c,1,none⟩ v) b x y:=by
 refine ⟨?_,?_,?_,?_,?_⟩
 · exact (World.cell?_setCell_other _ _ _ _ (by intro e;have:=congrArg Addr.block e;simp at this;omega)).trans ((World.cell?_setCell_other _ _ _ _ (by intro e;have:=congrArg Addr.block e;simp at this;omega)).trans h.c0)
 · exact (World.cell?_setCell_other _ _ _ _ (by intro e;have:=congrArg Addr.block e;simp at this;omega)).trans ((World.cell?_setCell_other _ _ _ _ (by intro e;have:=congrArg Addr.block e;simp at this;omega)).trans h.c1)
 · rw [World.frozen?_setCell,World.frozen?_setCell];exact h.f0
 · rw [World.frozen?_setCell,World.frozen?_setCell];exact h.f1
 · have:=h.lt;simp [World.setCell];omega
theorem below_set2 {B:Nat} {w w':World} (h:Below B w w') {b:Nat} (hb:B<=b) (u v:Value):Below B w ((w'.setCell ⟨b,0,none⟩ u).setCell ⟨b,1,none⟩ v):=(h.setCell hb _).setCell hb _
theorem alloc_below (w:World) (o:Obj):Below w.heap.size w (w.alloc o):=(Below.refl _ _).alloc (Nat.le_refl _) o
theorem ArOwn.set2 {lo:Nat} {w:World} {v1 v2:Value} {a:Ar.A} (h:ArOwn lo w v1 v2 a) {b:Nat} (hb:b<lo) (u v:Value):ArOwn lo ((w.setCell ⟨b,0,none⟩ u).setCell ⟨b,1,none⟩ v) v1 v2 a:=by
 have g1:=setCell_grown w ⟨b,0,none⟩ u
 have g2:=setCell_grown (w.setCell ⟨b,0,none⟩ u) ⟨b,1,none⟩ v
 exact ⟨(h.o1.kept g1 (.inr (own_ne h.o1 hb).symm)).kept g2 (.inr (own_ne h.o1 hb).symm),(h.o2.kept g1 (.inr (own_ne h.o2 hb).symm)).kept g2 (.inr (own_ne h.o2 hb).symm),h.ne⟩
theorem ArOwn.slices {lo:Nat} {w:World} {v1 v2:Value} {a:Ar.A} (h:ArOwn lo w v1 v2 a):∃ ad cd af cf,v1=.slice ad a.dicts.length cd/\v2=.slice af a.files.length cf/\ArV w ad af a:=by
 obtain ⟨ad,cd,af,cf,he,hv⟩:=h.hand
 unfold av at he
 simp only [Value.agg.injEq,Array.mk.injEq,List.cons.injEq,and_true] at he
 exact ⟨ad,cd,af,cf,he.1,he.2,hv⟩
theorem ArSaid.open {w:World} {a:Ar.A} {E:Int} {e:Ending} {w':World} (h:ArSaid w a E e w'):∃ ad cd af cf,e=.returned (.tuple #[.agg #[.slice ad a.dicts.length cd,.slice af a.files.length cf],.int .i64 E])/\ArV w' ad af a/\Below w.heap.size w w':=by
 obtain ⟨v1,v2,rfl,ho,hb⟩:=h
 obtain ⟨ad,cd,af,cf,rfl,rfl,hv⟩:=ho.slices
 exact ⟨ad,cd,af,cf,rfl,hv,hb⟩
theorem ArSaid.own {w:World} {a:Ar.A} {E:Int} {e:Ending} {w':World} (h:ArSaid w a E e w'):∃ ad cd af cf,e=.returned (.tuple #[.agg #[.slice ad a.dicts.length cd,.slice af a.files.length cf],.int .i64 E])/\ArOwn w.heap.size w' (.slice ad a.dicts.length cd) (.slice af a.files.length cf) a/\Below w.heap.size w w':=by
 obtain ⟨v1,v2,rfl,ho,hb⟩:=h
 obtain ⟨ad,cd,af,cf,rfl,rfl,hv⟩:=ho.slices
 exact ⟨ad,cd,af,cf,rfl,ho,hb⟩
theorem ArOwn.arv {lo:Nat} {w:World} {ad af:Option Addr} {n m cd cf:Nat} {a:Ar.A} (h:ArOwn lo w (.slice ad n cd) (.slice af m cf) a):ArV w ad af a:=by
 obtain ⟨ad',cd',af',cf',h1,h2,hv⟩:=h.slices
 simp only [Value.slice.injEq] at h1 h2
 rw [h1.1,h2.1];exact hv
def TwoSaid (a:Ar.A) (w:World) (e:Ending) (w':World):Prop:=∃ ad cd af cf,e=.returned (.agg #[.slice ad a.dicts.length cd,.slice af a.files.length cf])/\ArV w' ad af a/\Below w.heap.size w w'
end Go.Proofs.YtbjbjbpgmojcbabGreat
namespace Go.Proofs.YtbjbjbpgmojcbabGreat
open Go.RowKit
theorem two_from (A1 A2 A3:Ar.A) (w:World)
 (C1:Hid (∀ w',Calls Tryz.prog 13 #[.agg #[.slice none 0 0,.slice none 0 0],.string ⟨#[97]⟩,.string ⟨#[116,104,101,32,115,97,109,101,32,119,111,114,100,115,44,32,116,104,101,32,115,97,109,101,32,119,111,114,100,115]⟩,.int .i64 0] w' fun e w2=>ArSaid w' A1 0 e w2))
 (C2:Hid (∀ w' ad cd af cf,ArV w' ad af A1->Calls Tryz.prog 13 #[av ad cd af cf A1,.string ⟨#[98]⟩,.string ⟨#[116,104,101,32,115,97,109,101,32,119,111,114,100,115,44,32,111,114,32,111,116,104,101,114,115]⟩,.int .i64 0] w' fun e w2=>ArSaid w' A2 0 e w2))
 (C3:Hid (∀ w' ad cd af cf,Below w.heap.size w w'->ArV w' ad af A2->Calls Tryz.prog 25 #[av ad cd af cf A2,.int .i64 32] w' fun e w2=>ArSaid w' A3 0 e w2)) :
 Calls Tryz.prog 60 #[] w fun e w'=>TwoSaid A3 w e w':=by
 have HQ:Hid (∀ ad cd af cf w',ArV w' ad af A3->Below w.heap.size w w'->TwoSaid A3 w (.returned (.agg #[.slice ad A3.dicts.length cd,.slice af A3.files.length cf])) w'):=fun ad cd af cf w' h1 h2=>⟨ad,cd,af,cf,rfl,h1,h2⟩
 have O1:Hid (∀ (w:World) (e:Ending) (w':World),ArSaid w A1 0 e w'->∃ ad cd af cf,e=.returned (.tuple #[.agg #[.slice ad A1.dicts.length cd,.slice af A1.files.length cf],.int .i64 0])/\ArV w' ad af A1/\Below w.heap.size w w'):=fun _ _ _ h=>h.open
 have O2:Hid (∀ (w:World) (e:Ending) (w':World),ArSaid w A2 0 e w'->∃ ad cd af cf,e=.returned (.tuple #[.agg #[.slice ad A2.dicts.length cd,.slice af A2.files.length cf],.int .i64 0])/\ArOwn w.heap.size w' (.slice ad A2.dicts.length cd) (.slice af A2.files.length cf) A2/\Below w.heap.size w w'):=fun _ _ _ h=>h.own
 have O3:Hid (∀ (w:World) (e:Ending) (w':World),ArSaid w A3 0 e w'->∃ ad cd af cf,e=.returned (.tuple #[.agg #[.slice ad A3.dicts.length cd,.slice af A3.files.length cf],.int .i64 0])/\ArOwn w.heap.size w' (.slice ad A3.dicts.length cd) (.slice af A3.files.length cf) A3/\Below w.heap.size w w'):=fun _ _ _ h=>h.own
 generalize TwoSaid A3 w=Q at *
 unfold av at C2 C3
 generalize A1.dicts.length=D1 at *
 generalize A1.files.length=N1 at *
 generalize A2.dicts.length=D2 at *
 generalize A2.files.length=N2 at *
 generalize A3.dicts.length=D3 at *
 generalize A3.files.length=N3 at *
 go_enter Tryz.func60,Tryz.ntmps60
 go_wp2_with fail
 have R0:=Bx.new w (.slice none 0 0) (.slice none 0 0)
 have B0:=alloc_below w (.cells #[.slice none 0 0,.slice none 0 0] 25 (0,0))
 generalize (w.alloc (.cells #[.slice none 0 0,.slice none 0 0] 25 (0,0)))=w0 at *
 refine (C1.out _).mono ?_
 intro e w1 h1
 obtain ⟨ad1,cd1,af1,cf1,rfl,V1,G1⟩:=O1.out _ _ _ h1
 clear h1
 have R1:=R0.next G1
 have B1:=bch B0 G1 (Nat.le_refl _)
 clear R0 B0 G1
 go_wp2_with fail
 have T1:=Bx.new w1 (.slice ad1 D1 cd1) (.slice af1 N1 cf1)
 have GA:=alloc_below w1 (.cells #[.slice ad1 D1 cd1,.slice af1 N1 cf1] 25 (0,0))
 have R2:=R1.next GA
 have V2:=V1.below GA
 have B2:=bch B1 GA (Nat.le_refl _)
 have hT:=R1.lt
 have hTw:=B1.size
 clear GA R1 V1 B1
 generalize (w1.alloc (.cells #[.slice ad1 D1 cd1,.slice af1 N1 cf1] 25 (0,0)))=wa at *
 generalize w1.heap.size=T at *
 refine (C2.out _ _ _ _ _ V2).mono ?_
 intro e w2 h1
 obtain ⟨ad2,cd2,af2,cf2,rfl,W2,G⟩:=O2.out _ _ _ h1
 have T2:=T1.next G
 have R3:=R2.next G
 have B3:=bch B2 G (Nat.le_refl _)
 have hTa:=T1.lt
 clear h1 V2 B2 R2 G T1
 obtain ⟨t0,t1,t2,t3,_⟩:=id T2
 go_wp2_with fail
 have T4:=T2.set (u:=.slice ad2 D2 cd2) (v:=.slice af2 N2 cf2)
 have R4:=R3.far (c:=T) (by omega) (.slice ad2 D2 cd2) (.slice af2 N2 cf2)
 have W3:=(W2.set2 hTa (.slice ad2 D2 cd2) (.slice af2 N2 cf2)).arv
 have B4:=below_set2 B3 (b:=T) hTw (.slice ad2 D2 cd2) (.slice af2 N2 cf2)
 clear T2 R3 W2 B3 t0 t1 t2 t3
 generalize ((w2.setCell ⟨T,0,none⟩ (.slice ad2 D2 cd2)).setCell ⟨T,1,none⟩ (.slice af2 N2 cf2))=wb at *
 refine (C3.out _ _ _ _ _ B4 W3).mono ?_
 intro e w3 h1
 obtain ⟨ad3,cd3,af3,cf3,rfl,W3,G⟩:=O3.out _ _ _ h1
 have T5:=T4.next G
 have R5:=R4.next G
 have B5:=bch B4 G (Nat.le_refl _)
 have hTb:=T4.lt
 have hRb:=R4.lt
 clear h1 T4 R4 B4 G
 obtain ⟨t0,t1,t2,t3,_⟩:=id T5
 obtain ⟨r0,r1,r2,r3,_⟩:=id (R5.far (c:=T) (by omega) (.slice ad3 D3 cd3) (.slice af3 N3 cf3))
 obtain ⟨s0,s1,s2,s3,_⟩:=id (T5.set (u:=.slice ad3 D3 cd3) (v:=.slice af3 N3 cf3))
 have R6:=(R5.far (c:=T) (by omega) (.slice ad3 D3 cd3) (.slice af3 N3 cf3)).set (u:=.slice ad3 D3 cd3) (v:=.slice af3 N3 cf3)
 have W4:=((W3.set2 hTb (.slice ad3 D3 cd3) (.slice af3 N3 cf3)).set2 hRb (.slice ad3 D3 cd3) (.slice af3 N3 cf3)).arv
 have B6:=below_set2 (below_set2 B5 (b:=T) hTw (.slice ad3 D3 cd3) (.slice af3 N3 cf3)) (b:=w.heap.size) (Nat.le_refl _) (.slice ad3 D3 cd3) (.slice af3 N3 cf3)
 have hR:=HQ.out ad3 cd3 af3 cf3 _ W4 B6
 clear T5 R5 W3 B5 HQ C1 C2 C3 O1 O2 O3 W4 B6
 go_wp2_with fail
 exact bodyPost_ret (v:=.agg #[.slice ad3 D3 cd3,.slice af3 N3 cf3]) (by simp [results,Tryz.results60,go_sem,R6.c0,R6.c1]) rfl hR
theorem two_any (w:World) (hM:Mx w):Calls Tryz.prog 60 #[] w fun e w'=>TwoSaid Ar.A3 w e w':=by
 have s1:SaneA Ar.A1:=sane_az.put (by decide)
 have s2:SaneA Ar.A2:=s1.put (by decide)
 refine two_from Ar.A1 Ar.A2 Ar.A3 w (fun w'=>?_) (fun w' ad cd af cf hv=>?_) (fun w' ad cd af cf hb hv=>?_)
 · have:=archPut_any none none 0 0 Ar.az ⟨#[97]⟩ Ar.tA 0 w' ⟨.inl rfl,.inl rfl⟩ sane_az (by decide) (by decide)
   rw [Ar.e1] at this
   exact this
 · have:=archPut_any ad af cd cf Ar.A1 ⟨#[98]⟩ Ar.tB 0 w' hv s1 (by decide) (by decide)
   rw [Ar.e2] at this
   exact this
 · have:=archRetrain_any ad af cd cf Ar.A2 32 w' hv s2 (hM.below hb)
   rw [Ar.e3] at this
   exact this
end Go.Proofs.YtbjbjbpgmojcbabGreat
namespace Go.Proofs.YtbjbjbpgmojcbabGreat
open Go.RowKit
theorem archBegun_from (A A4 A5 A6:Ar.A) (t4:ByteArray) (n:Nat) (w:World) (hA:A.dicts.length=1) (h5:A5.dicts.length=1) (h6:A6.files.length=3) (hx:(Tr.xa A.dicts 0).size=32) (hn:32<n) (hn2:n<=9223372036854775807)
 (C0:Hid (∀ w',Below w.heap.size w w'->Calls Tryz.prog 60 #[] w' fun e w2=>TwoSaid A w' e w2))
 (CG:Hid (∀ w' ad cd af cf,ArV w' ad af A->Calls Tryz.prog 21 #[av ad cd af cf A,.string ⟨#[98]⟩] w' fun e w2=>e=.returned (.tuple #[.string ⟨#[116,104,101,32,115,97,109,101,32,119,111,114,100,115,44,32,111,114,32,111,116,104,101,114,115]⟩,.int .i64 0])/\Below w'.heap.size w' w2))
 (CR:Hid (∀ w' ad cd af cf,ArV w' ad af A->Calls Tryz.prog 22 #[av ad cd af cf A,.string ⟨#[97]⟩,.int .i64 4,.int .i64 4] w' fun e w2=>e=.returned (.tuple #[.string ⟨#[115,97,109,101]⟩,.int .i64 0])/\Below w'.heap.size w' w2))
 (CD:Hid (∀ w' ad cd af cf,ArV w' ad af A->Calls Tryz.prog 14 #[av ad cd af cf A,.string ⟨#[97]⟩] w' fun e w2=>ArSaid w' A4 0 e w2))
 (CG2:Hid (∀ w' ad cd af cf,ArV w' ad af A4->Calls Tryz.prog 21 #[av ad cd af cf A4,.string ⟨#[97]⟩] w' fun e w2=>e=.returned (.tuple #[.string t4,.int .i64 5])/\Below w'.heap.size w' w2))
 (CC:Hid (∀ w' ad cd af cf,ArV w' ad af A4->Calls Tryz.prog 26 #[av ad cd af cf A4] w' fun e w2=>ArSaid w' A5 0 e w2))
 (CS:Hid (∀ w' ad cd af cf,ArV w' ad af A5->Calls Tryz.prog 27 #[av ad cd af cf A5] w' fun e w2=>e=.returned (.tuple #[.int .i64 n,.int .i64 0])/\Below w'.heap.size w' w2))
 (CP:Hid (∀ w' ad cd af cf,ArV w' ad af A->Calls Tryz.prog 13 #[av ad cd af cf A,.string ⟨#[99]⟩,.string ⟨#[]⟩,.int .i64 0] w' fun e w2=>ArSaid w' A6 0 e w2))
 (CK:Hid (∀ w' ad cd af cf,ArV w' ad af A->Calls Tryz.prog 18 #[av ad cd af cf A] w' fun e w2=>e=.returned (.int .i64 0)/\Below w'.heap.size w' w2)) :
 Calls Tryz.prog 17 #[] w fun e w'=>e=.returned (.bool true)/\Below w.heap.size w w':=by
 have HT:Hid (∀ (w:World) (e:Ending) (w':World),TwoSaid A w e w'->∃ ad cd af cf,e=.returned (.agg #[.slice ad 1 cd,.slice af A.files.length cf])/\ArV w' ad af A/\Below w.heap.size w w'):=fun w e w' h=>by
  obtain ⟨ad,cd,af,cf,he,hv,hb⟩:=h
  rw [hA] at he
  exact ⟨ad,cd,af,cf,he,hv,hb⟩
 have HX:Hid (∀ (w':World) ad af,ArV w' ad af A->∃ b off,ad=some ⟨b,off,none⟩/\b<w'.heap.size/\w'.cell? ⟨b,off,none⟩=some (.string (Tr.xa A.dicts 0))):=fun w' ad af h=>by
  obtain ⟨b,off,h1,h2,h3⟩:=h.ds.at (i:=0) (by rw [hA];decide)
  exact ⟨b,off,h1,h2,by rw [<-h3,Nat.add_zero]⟩
 have O4:Hid (∀ (w:World) (e:Ending) (w':World),ArSaid w A4 0 e w'->∃ ad cd af cf,e=.returned (.tuple #[.agg #[.slice ad A4.dicts.length cd,.slice af A4.files.length cf],.int .i64 0])/\ArV w' ad af A4/\Below w.heap.size w w'):=fun _ _ _ h=>h.open
 have O5:Hid (∀ (w:World) (e:Ending) (w':World),ArSaid w A5 0 e w'->∃ ad cd af cf,e=.returned (.tuple #[.agg #[.slice ad 1 cd,.slice af A5.files.length cf],.int .i64 0])/\ArV w' ad af A5/\Below w.heap.size w w'):=fun _ _ _ h=>by rw [<-h5];exact h.open
 have O6:Hid (∀ (w:World) (e:Ending) (w':World),ArSaid w A6 0 e w'->∃ ad cd af cf,e=.returned (.tuple #[.agg #[.slice ad A6.dicts.length cd,.slice af 3 cf],.int .i64 0])/\ArV w' ad af A6/\Below w.heap.size w w'):=fun _ _ _ h=>by rw [<-h6];exact h.open
 unfold av at CG CR CD CG2 CC CS CP CK
 rw [hA] at CG CR CD CP CK
 rw [h5] at CS
 clear hA h5 h6
 generalize A.files.length=N at *
 generalize A4.dicts.length=D4 at *
 generalize A4.files.length=N4 at *
 generalize A5.files.length=N5 at *
 generalize A6.dicts.length=D6 at *
 generalize Tr.xa A.dicts 0=X at *
 have hni:(32:Int)<(n:Int):=by omega
 have dn:decide ((32:Int)<(n:Int))=true:=decide_eq_true hni
 have dn':decide (32<n)=true:=decide_eq_true hn
 have HXX:Hid (X.size=32):=hx
 clear hx
 have hfd:∀ (x y:Value) (w:World),(Instr.field 25 (.agg #[x,y]) 0).run Tryz.prog w=.ok x w:=fun _ _ _=>by kernel_rfl
 go_enter Tryz.func17,Tryz.ntmps17
 go_wp2_with fail
 refine (C0.out _ (Below.refl _ _)).mono ?_
 intro e w1 h1
 obtain ⟨ad,cd,af,cf,rfl,V1,B1⟩:=HT.out _ _ _ h1
 clear h1
 go_wp2_with fail
 refine (CG.out _ _ _ _ _ V1).mono ?_
 rintro e w2 ⟨rfl,G⟩
 have B2:=bch B1 G (Nat.le_refl _)
 clear G B1 V1
 go_wp2_with fail
 refine (C0.out _ B2).mono ?_
 intro e w3 h1
 obtain ⟨ad,cd,af,cf,rfl,V1,G⟩:=HT.out _ _ _ h1
 have B3:=bch B2 G (Nat.le_refl _)
 clear h1 G B2
 go_wp2_with fail
 refine (CR.out _ _ _ _ _ V1).mono ?_
 rintro e w4 ⟨rfl,G⟩
 have B4:=bch B3 G (Nat.le_refl _)
 clear G B3 V1
 go_wp2_with fail
 refine (C0.out _ B4).mono ?_
 intro e w5 h1
 obtain ⟨ad,cd,af,cf,rfl,V1,G⟩:=HT.out _ _ _ h1
 have B5:=bch B4 G (Nat.le_refl _)
 clear h1 G B4
 go_wp2_with fail
 refine (CD.out _ _ _ _ _ V1).mono ?_
 intro e w6 h1
 obtain ⟨ad4,cd4,af4,cf4,rfl,V4,G⟩:=O4.out _ _ _ h1
 have B6:=bch B5 G (Nat.le_refl _)
 clear h1 G B5 V1
 go_wp2_with fail
 have X1:=Bx.new w6 (.slice ad4 D4 cd4) (.slice af4 N4 cf4)
 have GA:=alloc_below w6 (.cells #[.slice ad4 D4 cd4,.slice af4 N4 cf4] 25 (0,0))
 have V4':=V4.below GA
 have B7:=bch B6 GA (Nat.le_refl _)
 clear GA B6 V4
 generalize (w6.alloc (.cells #[.slice ad4 D4 cd4,.slice af4 N4 cf4] 25 (0,0)))=w7 at *
 generalize w6.heap.size=bd at *
 refine (CG2.out _ _ _ _ _ V4').mono ?_
 rintro e w8 ⟨rfl,G⟩
 have X2:=X1.next G
 have V5:=V4'.below G
 have B8:=bch B7 G (Nat.le_refl _)
 clear G B7 V4' X1
 have x0:=X2.c0
 have x1:=X2.c1
 go_wp2_with fail
 refine (CC.out _ _ _ _ _ V5).mono ?_
 intro e w9 h1
 obtain ⟨ad5,cd5,af5,cf5,rfl,V6,G⟩:=O5.out _ _ _ h1
 have B9:=bch B8 G (Nat.le_refl _)
 clear h1 G B8 V5 X2 x0 x1
 go_wp2_with fail
 have X1:=Bx.new w9 (.slice ad5 1 cd5) (.slice af5 N5 cf5)
 have GA:=alloc_below w9 (.cells #[.slice ad5 1 cd5,.slice af5 N5 cf5] 25 (0,0))
 have V7:=V6.below GA
 have B10:=bch B9 GA (Nat.le_refl _)
 clear GA B9 V6
 generalize (w9.alloc (.cells #[.slice ad5 1 cd5,.slice af5 N5 cf5] 25 (0,0)))=w10 at *
 generalize w9.heap.size=bc at *
 refine (CS.out _ _ _ _ _ V7).mono ?_
 rintro e w11 ⟨rfl,G⟩
 have X2:=X1.next G
 have B11:=bch B10 G (Nat.le_refl _)
 clear G B10 V7 X1
 go_wp2_with fail
 refine (C0.out _ B11).mono ?_
 intro e w12 h1
 obtain ⟨ad,cd,af,cf,rfl,V1,G⟩:=HT.out _ _ _ h1
 have X3:=X2.next G
 have B12:=bch B11 G (Nat.le_refl _)
 clear h1 G B11 X2
 go_wp2_with fail
 refine (CP.out _ _ _ _ _ V1).mono ?_
 intro e w13 h1
 obtain ⟨ad6,cd6,af6,cf6,rfl,V6,G⟩:=O6.out _ _ _ h1
 have X4:=X3.next G
 have B13:=bch B12 G (Nat.le_refl _)
 clear h1 G B12 V1 X3 V6
 go_wp2_with fail
 have Y1:=Bx.new w13 (.slice ad6 D6 cd6) (.slice af6 3 cf6)
 have GA:=alloc_below w13 (.cells #[.slice ad6 D6 cd6,.slice af6 3 cf6] 25 (0,0))
 have X5:=X4.next GA
 have B14:=bch B13 GA (Nat.le_refl _)
 clear GA B13 X4
 generalize (w13.alloc (.cells #[.slice ad6 D6 cd6,.slice af6 3 cf6] 25 (0,0)))=w14 at *
 generalize w13.heap.size=bp at *
 refine (C0.out _ B14).mono ?_
 intro e w15 h1
 obtain ⟨ad,cd,af,cf,rfl,V1,G⟩:=HT.out _ _ _ h1
 have X6:=X5.next G
 have Y2:=Y1.next G
 have B15:=bch B14 G (Nat.le_refl _)
 clear h1 G B14 X5 Y1
 go_wp2_with fail
 refine (CK.out _ _ _ _ _ V1).mono ?_
 rintro e w16 ⟨rfl,G⟩
 have X7:=X6.next G
 have Y3:=Y2.next G
 have B16:=bch B15 G (Nat.le_refl _)
 have x0:=X7.c0
 have x1:=X7.c1
 have y0:=Y3.c0
 have y1:=Y3.c1
 clear G B15 X6 Y2 V1 X7 Y3 CG CR CD CG2 CC CS CP CK O4 O5 O6
 go_wp2_with fail
 refine (C0.out _ B16).mono ?_
 intro e w17 h1
 obtain ⟨ad,cd,af,cf,rfl,V1,G⟩:=HT.out _ _ _ h1
 have B17:=bch B16 G (Nat.le_refl _)
 obtain ⟨b,off,rfl,hbl,hcell⟩:=HX.out _ _ _ V1
 clear h1 G B16 V1 x0 x1 y0 y1 HX HT C0
 have hX:=HXX.out
 have hX1:((X.size:Int) == 32)=true:=by rw [hX];rfl
 go_wp2_with fail
 go_ret
 exact ⟨rfl,B17⟩
theorem archBegun_any (w:World) (hM:Mx w):Calls Tryz.prog 17 #[] w fun e w'=>e=.returned (.bool true)/\Below w.heap.size w w':=by
 have s1:SaneA Ar.A1:=sane_az.put (by decide)
 have s2:SaneA Ar.A2:=s1.put (by decide)
 have s3:SaneA Ar.A3:=s2.ret 32
 have s4:SaneA (Ar.dropA Ar.A3 ⟨#[97]⟩):=s3.drop _
 have s5:SaneA (Ar.cmpA (Ar.dropA Ar.A3 ⟨#[97]⟩)):=s4.cmp
 have gb:=Ar.get_ret Ar.e3 ⟨#[98]⟩
 have gb2:=Ar.get_put Ar.e2
 have ga:=Ar.get_ret Ar.e3 ⟨#[97]⟩
 have ga2:=Ar.get_put_other (o:=⟨#[97]⟩) Ar.e2 (by decide)
 have ga3:=Ar.get_put Ar.e1
 have eb:Ar.getE Ar.A3 ⟨#[98]⟩=0:=gb.1.trans gb2.1
 have tb:Ar.getT Ar.A3 ⟨#[98]⟩=Ar.tB:=gb.2.trans gb2.2
 have ea:Ar.getE Ar.A3 ⟨#[97]⟩=0:=ga.1.trans (ga2.1.trans ga3.1)
 have ta:Ar.getT Ar.A3 ⟨#[97]⟩=Ar.tA:=ga.2.trans (ga2.2.trans ga3.2)
 have c4:=Ar.chk_drop ea
 have c5:=Ar.chk_cmp c4
 have re:Ar.rngE Ar.A3 ⟨#[97]⟩ 4 4=0:=by unfold Ar.rngE;rw [ea,ta];rfl
 have rt:Ar.rngT Ar.A3 ⟨#[97]⟩ 4 4=⟨#[115,97,109,101]⟩:=by unfold Ar.rngT;rw [re,ta];rfl
 have hn:=of_decide_eq_true Ar.n4
 have hn2:Ar.szN (Ar.cmpA (Ar.dropA Ar.A3 ⟨#[97]⟩))<=9223372036854775807:=by
  obtain ⟨m1,m2,_⟩:=Ar.many_iff.1 (Ar.chk_zero.1 c5).1
  have k1:=Ar.szD_le s5.ds (Ar.cmpA (Ar.dropA Ar.A3 ⟨#[97]⟩)).dicts.length
  have k2:=Ar.szF_le s5.bk (Ar.cmpA (Ar.dropA Ar.A3 ⟨#[97]⟩)).files.length
  unfold Ar.szN
  rw [if_pos c5]
  unfold Ar.sz
  generalize Ar.szD _ _=x at *
  generalize Ar.szF _ _=y at *
  generalize (Ar.cmpA (Ar.dropA Ar.A3 ⟨#[97]⟩)).dicts.length=p at *
  generalize (Ar.cmpA (Ar.dropA Ar.A3 ⟨#[97]⟩)).files.length=q at *
  omega
 refine archBegun_from Ar.A3 (Ar.dropA Ar.A3 ⟨#[97]⟩) (Ar.cmpA (Ar.dropA Ar.A3 ⟨#[97]⟩)) (Ar.putA Ar.A3 ⟨#[99]⟩ ⟨#[]⟩ 0) (Ar.getT (Ar.dropA Ar.A3 ⟨#[97]⟩) ⟨#[97]⟩) (Ar.szN (Ar.cmpA (Ar.dropA Ar.A3 ⟨#[97]⟩))) w Ar.d3 Ar.d4 Ar.p3 Ar.x3 hn hn2
  (fun w' hb=>two_any w' (hM.below hb)) (fun w' ad cd af cf hv=>?_) (fun w' ad cd af cf hv=>?_) (fun w' ad cd af cf hv=>?_) (fun w' ad cd af cf hv=>?_) (fun w' ad cd af cf hv=>?_) (fun w' ad cd af cf hv=>?_) (fun w' ad cd af cf hv=>?_) (fun w' ad cd af cf hv=>?_)
 · have:=archGet_any ad af cd cf Ar.A3 ⟨#[98]⟩ w' hv s3
   rw [eb,tb] at this
   exact this
 · have:=archRange_any ad af cd cf Ar.A3 ⟨#[97]⟩ 4 4 w' hv s3 (by decide) (by decide)
   rw [re,rt] at this
   exact this
 · have:=archDrop_any ad af cd cf Ar.A3 ⟨#[97]⟩ w' hv s3
   rw [ea] at this
   exact this
 · have:=archGet_any ad af cd cf (Ar.dropA Ar.A3 ⟨#[97]⟩) ⟨#[97]⟩ w' hv s4
   rw [Ar.get_drop ea] at this
   exact this
 · have:=archCompact_any ad af cd cf (Ar.dropA Ar.A3 ⟨#[97]⟩) w' hv s4
   rw [c4] at this
   exact this
 · have:=archSize_any ad af cd cf (Ar.cmpA (Ar.dropA Ar.A3 ⟨#[97]⟩)) w' hv s5
   rw [c5] at this
   exact this
 · have:=archPut_any ad af cd cf Ar.A3 ⟨#[99]⟩ ⟨#[]⟩ 0 w' hv s3 (by decide) (by decide)
   rw [Ar.p3e] at this
   exact this
 · have:=archCheck_any ad af cd cf Ar.A3 w' hv s3
   rw [Ar.c3] at this
   exact this
end Go.Proofs.YtbjbjbpgmojcbabGreat
namespace Go.Proofs.YtbjbjbpgmojcbabGreat
open Go.RowKit
set_option linter.unusedVariables false
theorem played_any (dict:ByteArray) (ad:Option Addr) (cap:Nat) (l:List Tk.T) (w:World) (hl:SlAt w ad l) (hs:Sane l) :
 Calls Tryz.prog 102 #[.string dict,.slice ad l.length cap] w fun e w'=>e=.returned (.string (playOf dict l))/\Below w.heap.size w w':=by
 have c1:=fun w hl=>ref_any dict ad cap l w hl hs
 generalize playOf dict l=P at *
 generalize checkOf dict l=C at *
 go_enter Tryz.func102,Tryz.ntmps102
 go_wp2_with fail
 refine (c1 _ hl).mono ?_
 rintro e w1 ⟨rfl,G⟩
 go_wp2_with fail
 go_ret
 exact ⟨rfl,G⟩
theorem from_some {dict s:ByteArray} {m:List Tk.T} (hd:dict.size<=256) (hs:s.size<=140737488355328) (hm:readOf dict s=some m) (w:World):Calls Tryz.prog 101 #[.string dict,.string s] w fun e w'=>Below w.heap.size w w'/\∃ ad cap,e=.returned (.tuple #[.slice ad m.length cap,.bool true])/\SlAt w' ad m:=(toksFrom_any dict s w hs).mono fun e w' h=>by
 rw [from_read hd] at h
 rcases h with ⟨h1,⟨h2,_⟩ | ⟨k,a,c,h2,h3,h4⟩⟩
 · rw [hm] at h2;cases h2
 · rw [hm] at h2;cases h2;exact ⟨h1,a,c,h3,h4⟩
theorem from_nil {dict s:ByteArray} (hd:dict.size<=256) (hs:s.size<=140737488355328) (hm:readOf dict s=none) (w:World):Calls Tryz.prog 101 #[.string dict,.string s] w fun e w'=>Below w.heap.size w w'/\e=.returned (.tuple #[.slice none 0 0,.bool false]):=(toksFrom_any dict s w hs).mono fun e w' h=>by
 rw [from_read hd] at h
 rcases h with ⟨h1,⟨_,h2⟩ | ⟨k,a,c,h2,h3,h4⟩⟩
 · exact ⟨h1,h2⟩
 · rw [hm] at h2;cases h2
theorem played_of {dict s:ByteArray} {m:List Tk.T} (hd:dict.size<=256) (hm:readOf dict s=some m) (ad:Option Addr) (cap:Nat) (w:World) (h:SlAt w ad m):Calls Tryz.prog 102 #[.string dict,.slice ad m.length cap] w fun e w'=>e=.returned (.string (playOf dict m))/\Below w.heap.size w w' :=
 played_any dict ad cap m w h (small_sane (check_small (readOf_some hd hm).2))
theorem not_empty {b:ByteArray} (h0:b.size ≠ 0):b.toList.isEmpty=false:=by
 rw [ByteArray.toList_eq,Bool.eq_false_iff]
 intro e
 rw [List.isEmpty_iff] at e
 apply h0
 have:=congrArg List.length e
 rw [Cd.size_list] at this
 simpa using this
theorem at_first {b:ByteArray} (h:0<b.size):Cd.at8 b 0=b[0].toNat:=by unfold Cd.at8;rw [Nm.at_list b 0 h];rfl
theorem at_ext (s:ByteArray) (j:Nat) (hj:j<8):Cd.at8 (s.extract 0 8) j=Cd.at8 s j:=by
 unfold Cd.at8
 congr 2
 simp [ByteArray.data_extract,Array.toList_extract]
 rw [List.getElem?_take_of_lt hj,Array.getElem?_toList]
theorem pt_ext (s:ByteArray) (i:Nat):Bk.ptK s 8 i=Bk.pt (s.extract 0 8) i:=by
 unfold Bk.pt Bk.ptK
 by_cases h:i<2*8
 · rw [if_pos h,if_pos h,at_ext s (i / 2) (by omega)]
 · rw [if_neg h,if_neg h]
theorem unpackOf_empty (dict:ByteArray) (w:World) :
 Calls Tryz.prog 62 #[.string dict,.string ⟨#[]⟩] w fun e w'=>e=.returned (.tuple #[.string ⟨#[]⟩,.bool false])/\Below w.heap.size w w':=by
 go_enter Tryz.func62,Tryz.ntmps62
 go_wp2_with fail
 go_ret2
 exact ⟨rfl,Below.refl _ _⟩
theorem unpackOf_0 (dict b S:ByteArray) (w:World) (hd:dict.size<=256) (hb:b.size<=140737488355328) (h0:0<b.size) (hS:b.extract 1 b.size=S) (hx:(b[0].toNat:Int)=0) :
 Calls Tryz.prog 62 #[.string dict,.string b] w fun e w'=>e=.returned (.tuple #[.string S,.bool (decide ((S.size:Int)<=512))])/\Below w.heap.size w w':=by
 have hne:=not_empty (b:=b) (by omega)
 have hb1:(1:Int)<=(b.size:Int):=by omega
 have hb1n:1<=b.size:=by omega
 have hb0:(0:Int)<(b.size:Int):=by omega
 have hbi:(b.size:Int)<=140737488355328:=by omega
 have hs1:=ext_size b 1 b.size
 rw [hS] at hs1
 have hs2:S.size<=140737488355328:=by omega
 clear hs1
 go_enter Tryz.func62,Tryz.ntmps62
 go_wp2_with fail
 go_region
 go_wp2_with fail
 go_ret2
 exact ⟨rfl,(Below.refl _ _).drew⟩
theorem unpackOf_3 (dict b S:ByteArray) (w:World) (hd:dict.size<=256) (hb:b.size<=140737488355328) (h0:0<b.size) (hS:b.extract 1 b.size=S) (hx:2<(b[0].toNat:Int)) :
 Calls Tryz.prog 62 #[.string dict,.string b] w fun e w'=>e=.returned (.tuple #[.string ⟨#[]⟩,.bool false])/\Below w.heap.size w w':=by
 have hne:=not_empty (b:=b) (by omega)
 have hb1:(1:Int)<=(b.size:Int):=by omega
 have hb1n:1<=b.size:=by omega
 have hb0:(0:Int)<(b.size:Int):=by omega
 have hbi:(b.size:Int)<=140737488355328:=by omega
 have hs1:=ext_size b 1 b.size
 rw [hS] at hs1
 have hs2:S.size<=140737488355328:=by omega
 clear hs1
 obtain ⟨x,hxe⟩:∃ x:Int,(b[0].toNat:Int)=x:=⟨_,rfl⟩
 rw [hxe] at hx
 have q0:(x == 0)=false:=by simp;omega
 have q1:(x == 2)=false:=by simp;omega
 have q2:¬ x=0:=by omega
 have q3:¬ x=2:=by omega
 have q4:decide (2<x)=true:=by simp;omega
 go_enter Tryz.func62,Tryz.ntmps62
 go_wp2_with fail
 go_region
 go_wp2_with fail
 go_ret2
 exact ⟨rfl,(Below.refl _ _).drew⟩
theorem unpackOf_1n (dict b S:ByteArray) (w:World) (hd:dict.size<=256) (hb:b.size<=140737488355328) (h0:0<b.size) (hS:b.extract 1 b.size=S) (hx:(b[0].toNat:Int)=1) (hm:readOf dict S=none) :
 Calls Tryz.prog 62 #[.string dict,.string b] w fun e w'=>e=.returned (.tuple #[.string ⟨#[]⟩,.bool false])/\Below w.heap.size w w':=by
 have hne:=not_empty (b:=b) (by omega)
 have hb1:(1:Int)<=(b.size:Int):=by omega
 have hb1n:1<=b.size:=by omega
 have hb0:(0:Int)<(b.size:Int):=by omega
 have hbi:(b.size:Int)<=140737488355328:=by omega
 have hs1:=ext_size b 1 b.size
 rw [hS] at hs1
 have hs2:S.size<=140737488355328:=by omega
 clear hs1
 have c1:=fun w=>from_nil hd (by omega) hm w
 clear hm
 go_enter Tryz.func62,Tryz.ntmps62
 go_wp2_with fail
 go_region
 go_wp2_with fail
 refine (c1 _).mono ?_
 rintro e w1 ⟨G1,rfl⟩
 have B1:Below w.heap.size w w1:=(Below.refl _ _).drew.trans G1
 go_wp2_with fail
 go_ret2
 exact ⟨rfl,B1⟩
theorem unpackOf_1s (dict b S:ByteArray) (w:World) (hd:dict.size<=256) (hb:b.size<=140737488355328) (h0:0<b.size) (hS:b.extract 1 b.size=S) (hx:(b[0].toNat:Int)=1) (m:List Tk.T) (hm:readOf dict S=some m) :
 Calls Tryz.prog 62 #[.string dict,.string b] w fun e w'=>e=.returned (.tuple #[.string (playOf dict m),.bool true])/\Below w.heap.size w w':=by
 have hne:=not_empty (b:=b) (by omega)
 have hb1:(1:Int)<=(b.size:Int):=by omega
 have hb1n:1<=b.size:=by omega
 have hb0:(0:Int)<(b.size:Int):=by omega
 have hbi:(b.size:Int)<=140737488355328:=by omega
 have hs1:=ext_size b 1 b.size
 rw [hS] at hs1
 have hs2:S.size<=140737488355328:=by omega
 clear hs1
 have c1:=fun w=>from_some hd (by omega) hm w
 have c2:=fun ad cap w h=>played_of hd hm ad cap w h
 clear hm
 generalize playOf dict m=P at *
 go_enter Tryz.func62,Tryz.ntmps62
 go_wp2_with fail
 go_region
 go_wp2_with fail
 refine (c1 _).mono ?_
 rintro e w1 ⟨G1,ad,cap,rfl,S1⟩
 have B1:Below w.heap.size w w1:=(Below.refl _ _).drew.trans G1
 go_wp2_with fail
 refine (c2 ad cap _ S1).mono ?_
 rintro e w2 ⟨rfl,G2⟩
 have B2:=bch B1 G2 (Nat.le_refl _)
 go_wp2_with fail
 go_ret2
 exact ⟨rfl,B2⟩
theorem unpackOf_2s (dict b S:ByteArray) (w:World) (hd:dict.size<=256) (hb:b.size<=140737488355328) (h0:0<b.size) (hS:b.extract 1 b.size=S) (hx:(b[0].toNat:Int)=2) (h8:S.size<8) :
 Calls Tryz.prog 62 #[.string dict,.string b] w fun e w'=>e=.returned (.tuple #[.string ⟨#[]⟩,.bool false])/\Below w.heap.size w w':=by
 have hne:=not_empty (b:=b) (by omega)
 have hb1:(1:Int)<=(b.size:Int):=by omega
 have hb1n:1<=b.size:=by omega
 have hb0:(0:Int)<(b.size:Int):=by omega
 have hbi:(b.size:Int)<=140737488355328:=by omega
 have hs1:=ext_size b 1 b.size
 rw [hS] at hs1
 have hs2:S.size<=140737488355328:=by omega
 clear hs1
 have h8':(S.size:Int)<8:=by omega
 have h8d:decide ((S.size:Int)<8)=true:=by simp;omega
 go_enter Tryz.func62,Tryz.ntmps62
 go_wp2_with fail
 go_region
 go_wp2_with fail
 go_ret2
 exact ⟨rfl,(Below.refl _ _).drew⟩
end Go.Proofs.YtbjbjbpgmojcbabGreat
namespace Go.Proofs.YtbjbjbpgmojcbabGreat
open Go.RowKit
set_option linter.unusedVariables false
theorem unpackOf_2n (dict b S:ByteArray) (w:World) (hd:dict.size<=256) (hb:b.size<=140737488355328) (h0:0<b.size) (hS:b.extract 1 b.size=S) (hx:(b[0].toNat:Int)=2) (Z:ByteArray) (hZ:S.extract 8 S.size=Z) (h8:¬ S.size<8) (hn:Nm.from_ Z.data.toList=none) :
 Calls Tryz.prog 62 #[.string dict,.string b] w fun e w'=>e=.returned (.tuple #[.string ⟨#[]⟩,.bool false])/\Below w.heap.size w w':=by
 have hne:=not_empty (b:=b) (by omega)
 have hb1:(1:Int)<=(b.size:Int):=by omega
 have hb1n:1<=b.size:=by omega
 have hb0:(0:Int)<(b.size:Int):=by omega
 have hbi:(b.size:Int)<=140737488355328:=by omega
 have hs1:=ext_size b 1 b.size
 rw [hS] at hs1
 have hs2:S.size<=140737488355328:=by omega
 have hz1:=ext_size S 8 S.size
 rw [hZ] at hz1
 have hz2:Z.size<=140737488355328:=by omega
 clear hs1 hz1
 have h8':(8:Int)<=(S.size:Int):=by omega
 have h8n:8<=S.size:=by omega
 have h8d:decide ((S.size:Int)<8)=false:=by simp;omega
 have h8s:(S.size:Int)<=140737488355328:=by omega
 have c1:=fun w=>numFrom_no Z w (by omega) hn
 have c2:=fun w=>readCode_any (Bk.pt (S.extract 0 8)) ⟨#[]⟩ 0 w
 generalize (Cd.rd (Bk.pt (S.extract 0 8)) ⟨#[]⟩ 0).1=X1 at *
 generalize (Cd.rd (Bk.pt (S.extract 0 8)) ⟨#[]⟩ 0).2=X2 at *
 clear hn
 have HX:Hid (∀ i,Bk.ptK S 8 i=Bk.pt (S.extract 0 8) i):=pt_ext S
 generalize Bk.pt (S.extract 0 8)=f at *
 have hif:=arr_infoc f
 have R3:=RowAt.new w (fun _=>0)
 have HB:Below w.heap.size w (w.alloc (.cells (arr fun _=>0) 127)):=(Below.refl _ _).alloc (Nat.le_refl _) _
 rw [<-arr_zero] at R3 HB
 go_enter Tryz.func62,Tryz.ntmps62
 go_wp2_with fail
 go_region
 go_wp2_with fail
 rw [arr_zero] at R3 HB
 rw [arr_zero]
 generalize w.alloc (.cells (arr fun _=>0) 127)=w0 at *
 obtain ⟨g3,hg3⟩:∃ g3,w.heap.size=g3:=⟨_,rfl⟩
 have hq:Hid (w.heap.size<=g3):=Nat.le_of_eq hg3
 have hg3':w.heap.size=g3:=hg3
 have R3':RowAt w0 g3 (Bk.ptK S 0):=by rw [<-hg3];exact R3.congr (fun i _=>by simp [Bk.ptK])
 clear R3
 rw [hg3']
 clear hg3
 go_loopw [9] (fun i wr=>∃ k:Nat,k<=8/\i=.int .i64 k/\RowAt wr g3 (Bk.ptK S k)/\Below w.heap.size w wr) (fun i _=>8 - (intOf i).toNat)
 case atStart=>exact ⟨0,by omega,rfl,R3',HB.drew⟩
 case round =>
  clear R3' HB
  obtain ⟨k,hk,rfl,R3,HB⟩:=hrel
  by_cases hlt:k<8
  · have hk1:decide ((k:Int)<8)=true:=by simp;omega
    have hk2:decide (k<8)=true:=by simp;omega
    have hks:k<S.size:=by omega
    have hk3:(k:Int)<(S.size:Int):=by omega
    obtain ⟨x,hxx⟩:∃ x:Int,(S[k].toNat:Int)=x:=⟨_,rfl⟩
    have hA:Cd.at8 S k=S[k].toNat:=by unfold Cd.at8;rw [Nm.at_list S k hks];rfl
    have hA2:=Cd.at8_lt S k
    have hx0:0<=x:=by omega
    have hx1:x<=255:=by omega
    obtain ⟨H,hH⟩:∃ H,Cd.at8 S k / 16=H:=⟨_,rfl⟩
    obtain ⟨L,hL⟩:∃ L,Cd.at8 S k % 16=L:=⟨_,rfl⟩
    have e1:x / 16=(H:Int):=by omega
    have e2:x % 16=(L:Int):=by omega
    have e3:x.tdiv 16=(H:Int):=by rw [Int.tdiv_eq_ediv_of_nonneg hx0];exact e1
    have e4:x.tmod 16=(L:Int):=by rw [Int.tmod_eq_emod_of_nonneg hx0];exact e2
    have hH2:H<16:=by omega
    have hL2:L<16:=by omega
    have u1:IntKind.u8.wrap (H:Int)=(H:Int):=IntWalk.u8_in _ ⟨by omega,by omega⟩
    have u2:IntKind.i64.wrap (H:Int)=(H:Int):=IntWalk.i64_in _ ⟨by omega,by omega⟩
    have u3:IntKind.u8.wrap (L:Int)=(L:Int):=IntWalk.u8_in _ ⟨by omega,by omega⟩
    have u4:IntKind.i64.wrap (L:Int)=(L:Int):=IntWalk.i64_in _ ⟨by omega,by omega⟩
    obtain ⟨K2,hK2e⟩:∃ K2,2*k=K2:=⟨_,rfl⟩
    obtain ⟨K3,hK3e⟩:∃ K3,2*k+1=K3:=⟨_,rfl⟩
    have hK2:K2<16:=by omega
    have hK3:K3<16:=by omega
    have m2:2*(k:Int)=(K2:Int):=by omega
    have m3:(K2:Int)+1=(K3:Int):=by omega
    have hK2i:(K2:Int)<16:=by omega
    have hK3i:(K3:Int)<16:=by omega
    have w4:IntKind.i64.wrap (K2:Int)=(K2:Int):=IntWalk.i64_in _ ⟨by omega,by omega⟩
    have w5:IntKind.i64.wrap (K3:Int)=(K3:Int):=IntWalk.i64_in _ ⟨by omega,by omega⟩
    have c1:=R3.cell K2 hK2
    have f1:=R3.frozen K2
    have c2:=R3.cell K3 hK3
    have f2:=R3.frozen K3
    have S3:=R3.set K2 (H:Int)
    have SB:=HB.setCell (p:=⟨g3,K2,none⟩) (by have:=hq.out;show _<=g3;omega) (.int .i64 (H:Int))
    have T3:=(S3.set K3 (L:Int)).congr (f':=Bk.ptK S (k+1)) (fun i _=>by rw [<-hK2e,<-hK3e,<-hH,<-hL];exact Bk.ptK_next S k i)
    have TB:=SB.setCell (p:=⟨g3,K3,none⟩) (by have:=hq.out;show _<=g3;omega) (.int .i64 (L:Int))
    clear hA hA2 hH hL e1 e2 hK2e hK3e R3 HB S3 SB
    go_wp2_with fail
    go_region
    all_goals go_wp2_with fail
    all_goals go_roundw
    case rel=>exact ⟨k+1,by omega,by go_num,T3,TB.drew⟩
    case measure=>simp [intOf];omega
  · obtain rfl:k=8:=by omega
    have hk1:decide ((8:Int)<8)=false:=by decide
    have R4:=R3.congr (f':=f) (fun i _=>HX.out i)
    clear R3 HX hx
    go_wp2_with fail
    refine (c1 _).mono ?_
    rintro e w1 ⟨rfl,G1⟩
    have R5:=R4.below G1
    have B5:=bch HB G1 (Nat.le_refl _)
    clear R4 HB G1 c1
    go_wp2_with (refine wpList_load_row rfl 127 _ rfl g3 rfl 127 (arr f) (0,0) _ R5.2 Tryz.underlying127 rfl hif ?_)
    refine (c2 _).mono ?_
    rintro e w2 ⟨rfl,G2⟩
    have B6:=bch B5 G2 (Nat.le_refl _)
    go_wp2_with fail
    go_ret2
    exact ⟨rfl,B6⟩
theorem unpackOf_2e (dict b S:ByteArray) (w:World) (hd:dict.size<=256) (hb:b.size<=140737488355328) (h0:0<b.size) (hS:b.extract 1 b.size=S) (hx:(b[0].toNat:Int)=2) (Z:ByteArray) (hZ:S.extract 8 S.size=Z) (h8:¬ S.size<8) (n k:Nat) (Y:ByteArray) (hn:Nm.from_ Z.data.toList=some (n,k)) (hY:Z.extract k Z.size=Y) (hE:(Cd.rd (Bk.pt (S.extract 0 8)) Y (n:Nat)).2 ≠ 0) :
 Calls Tryz.prog 62 #[.string dict,.string b] w fun e w'=>e=.returned (.tuple #[.string ⟨#[]⟩,.bool false])/\Below w.heap.size w w':=by
 have hne:=not_empty (b:=b) (by omega)
 have hb1:(1:Int)<=(b.size:Int):=by omega
 have hb1n:1<=b.size:=by omega
 have hb0:(0:Int)<(b.size:Int):=by omega
 have hbi:(b.size:Int)<=140737488355328:=by omega
 have hs1:=ext_size b 1 b.size
 rw [hS] at hs1
 have hs2:S.size<=140737488355328:=by omega
 have hz1:=ext_size S 8 S.size
 rw [hZ] at hz1
 have hz2:Z.size<=140737488355328:=by omega
 clear hs1 hz1
 have h8':(8:Int)<=(S.size:Int):=by omega
 have h8n:8<=S.size:=by omega
 have h8d:decide ((S.size:Int)<8)=false:=by simp;omega
 have h8s:(S.size:Int)<=140737488355328:=by omega
 have c1:=fun w=>numFrom_yes Z w n k (by omega) hn
 rw [hY] at c1
 have c2:=fun w=>readCode_any (Bk.pt (S.extract 0 8)) Y (n:Nat) w
 generalize (Cd.rd (Bk.pt (S.extract 0 8)) Y (n:Nat)).1=X1 at *
 generalize (Cd.rd (Bk.pt (S.extract 0 8)) Y (n:Nat)).2=X2 at *
 have q1:(X2 == 0)=false:=by simp [hE]
 have q2:(X2 != 0)=true:=by simp [hE]
 clear hn hY
 have HX:Hid (∀ i,Bk.ptK S 8 i=Bk.pt (S.extract 0 8) i):=pt_ext S
 generalize Bk.pt (S.extract 0 8)=f at *
 have hif:=arr_infoc f
 have R3:=RowAt.new w (fun _=>0)
 have HB:Below w.heap.size w (w.alloc (.cells (arr fun _=>0) 127)):=(Below.refl _ _).alloc (Nat.le_refl _) _
 rw [<-arr_zero] at R3 HB
 go_enter Tryz.func62,Tryz.ntmps62
 go_wp2_with fail
 go_region
 go_wp2_with fail
 rw [arr_zero] at R3 HB
 rw [arr_zero]
 generalize w.alloc (.cells (arr fun _=>0) 127)=w0 at *
 obtain ⟨g3,hg3⟩:∃ g3,w.heap.size=g3:=⟨_,rfl⟩
 have hq:Hid (w.heap.size<=g3):=Nat.le_of_eq hg3
 have hg3':w.heap.size=g3:=hg3
 have R3':RowAt w0 g3 (Bk.ptK S 0):=by rw [<-hg3];exact R3.congr (fun i _=>by simp [Bk.ptK])
 clear R3
 rw [hg3']
 clear hg3
 go_loopw [9] (fun i wr=>∃ k:Nat,k<=8/\i=.int .i64 k/\RowAt wr g3 (Bk.ptK S k)/\Below w.heap.size w wr) (fun i _=>8 - (intOf i).toNat)
 case atStart=>exact ⟨0,by omega,rfl,R3',HB.drew⟩
 case round =>
  clear R3' HB
  obtain ⟨k,hk,rfl,R3,HB⟩:=hrel
  by_cases hlt:k<8
  · have hk1:decide ((k:Int)<8)=true:=by simp;omega
    have hk2:decide (k<8)=true:=by simp;omega
    have hks:k<S.size:=by omega
    have hk3:(k:Int)<(S.size:Int):=by omega
    obtain ⟨x,hxx⟩:∃ x:Int,(S[k].toNat:Int)=x:=⟨_,rfl⟩
    have hA:Cd.at8 S k=S[k].toNat:=by unfold Cd.at8;rw [Nm.at_list S k hks];rfl
    have hA2:=Cd.at8_lt S k
    have hx0:0<=x:=by omega
    have hx1:x<=255:=by omega
    obtain ⟨H,hH⟩:∃ H,Cd.at8 S k / 16=H:=⟨_,rfl⟩
    obtain ⟨L,hL⟩:∃ L,Cd.at8 S k % 16=L:=⟨_,rfl⟩
    have e1:x / 16=(H:Int):=by omega
    have e2:x % 16=(L:Int):=by omega
    have e3:x.tdiv 16=(H:Int):=by rw [Int.tdiv_eq_ediv_of_nonneg hx0];exact e1
    have e4:x.tmod 16=(L:Int):=by rw [Int.tmod_eq_emod_of_nonneg hx0];exact e2
    have hH2:H<16:=by omega
    have hL2:L<16:=by omega
    have u1:IntKind.u8.wrap (H:Int)=(H:Int):=IntWalk.u8_in _ ⟨by omega,by omega⟩
    have u2:IntKind.i64.wrap (H:Int)=(H:Int):=IntWalk.i64_in _ ⟨by omega,by omega⟩
    have u3:IntKind.u8.wrap (L:Int)=(L:Int):=IntWalk.u8_in _ ⟨by omega,by omega⟩
    have u4:IntKind.i64.wrap (L:Int)=(L:Int):=IntWalk.i64_in _ ⟨by omega,by omega⟩
    obtain ⟨K2,hK2e⟩:∃ K2,2*k=K2:=⟨_,rfl⟩
    obtain ⟨K3,hK3e⟩:∃ K3,2*k+1=K3:=⟨_,rfl⟩
    have hK2:K2<16:=by omega
    have hK3:K3<16:=by omega
    have m2:2*(k:Int)=(K2:Int):=by omega
    have m3:(K2:Int)+1=(K3:Int):=by omega
    have hK2i:(K2:Int)<16:=by omega
    have hK3i:(K3:Int)<16:=by omega
    have w4:IntKind.i64.wrap (K2:Int)=(K2:Int):=IntWalk.i64_in _ ⟨by omega,by omega⟩
    have w5:IntKind.i64.wrap (K3:Int)=(K3:Int):=IntWalk.i64_in _ ⟨by omega,by omega⟩
    have c1:=R3.cell K2 hK2
    have f1:=R3.frozen K2
    have c2:=R3.cell K3 hK3
    have f2:=R3.frozen K3
    have S3:=R3.set K2 (H:Int)
    have SB:=HB.setCell (p:=⟨g3,K2,none⟩) (by have:=hq.out;show _<=g3;omega) (.int .i64 (H:Int))
    have T3:=(S3.set K3 (L:Int)).congr (f':=Bk.ptK S (k+1)) (fun i _=>by rw [<-hK2e,<-hK3e,<-hH,<-hL];exact Bk.ptK_next S k i)
    have TB:=SB.setCell (p:=⟨g3,K3,none⟩) (by have:=hq.out;show _<=g3;omega) (.int .i64 (L:Int))
    clear hA hA2 hH hL e1 e2 hK2e hK3e R3 HB S3 SB
    go_wp2_with fail
    go_region
    all_goals go_wp2_with fail
    all_goals go_roundw
    case rel=>exact ⟨k+1,by omega,by go_num,T3,TB.drew⟩
    case measure=>simp [intOf];omega
  · obtain rfl:k=8:=by omega
    have hk1:decide ((8:Int)<8)=false:=by decide
    have R4:=R3.congr (f':=f) (fun i _=>HX.out i)
    clear R3 HX hx
    go_wp2_with fail
    refine (c1 _).mono ?_
    rintro e w1 ⟨rfl,G1⟩
    have R5:=R4.below G1
    have B5:=bch HB G1 (Nat.le_refl _)
    clear R4 HB G1 c1
    go_wp2_with (refine wpList_load_row rfl 127 _ rfl g3 rfl 127 (arr f) (0,0) _ R5.2 Tryz.underlying127 rfl hif ?_)
    refine (c2 _).mono ?_
    rintro e w2 ⟨rfl,G2⟩
    have B6:=bch B5 G2 (Nat.le_refl _)
    clear R5 B5 G2 c2
    go_wp2_with fail
    go_ret2
    exact ⟨rfl,B6⟩
theorem unpackOf_2tn (dict b S:ByteArray) (w:World) (hd:dict.size<=256) (hb:b.size<=140737488355328) (h0:0<b.size) (hS:b.extract 1 b.size=S) (hx:(b[0].toNat:Int)=2) (Z:ByteArray) (hZ:S.extract 8 S.size=Z) (h8:¬ S.size<8) (n k:Nat) (Y:ByteArray) (hn:Nm.from_ Z.data.toList=some (n,k)) (hY:Z.extract k Z.size=Y) (X1:ByteArray) (hE:Cd.rd (Bk.pt (S.extract 0 8)) Y (n:Nat)=(X1,0)) (hX:X1.size<=140737488355328) (hm:readOf dict X1=none) :
 Calls Tryz.prog 62 #[.string dict,.string b] w fun e w'=>e=.returned (.tuple #[.string ⟨#[]⟩,.bool false])/\Below w.heap.size w w':=by
 have hne:=not_empty (b:=b) (by omega)
 have hb1:(1:Int)<=(b.size:Int):=by omega
 have hb1n:1<=b.size:=by omega
 have hb0:(0:Int)<(b.size:Int):=by omega
 have hbi:(b.size:Int)<=140737488355328:=by omega
 have hs1:=ext_size b 1 b.size
 rw [hS] at hs1
 have hs2:S.size<=140737488355328:=by omega
 have hz1:=ext_size S 8 S.size
 rw [hZ] at hz1
 have hz2:Z.size<=140737488355328:=by omega
 clear hs1 hz1
 have h8':(8:Int)<=(S.size:Int):=by omega
 have h8n:8<=S.size:=by omega
 have h8d:decide ((S.size:Int)<8)=false:=by simp;omega
 have h8s:(S.size:Int)<=140737488355328:=by omega
 have c1:=fun w=>numFrom_yes Z w n k (by omega) hn
 rw [hY] at c1
 have c2:=fun w=>readCode_any (Bk.pt (S.extract 0 8)) Y (n:Nat) w
 rw [hE] at c2
 have c3:=fun w=>from_nil hd hX hm w
 clear hn hY hE hm
 have HX:Hid (∀ i,Bk.ptK S 8 i=Bk.pt (S.extract 0 8) i):=pt_ext S
 generalize Bk.pt (S.extract 0 8)=f at *
 have hif:=arr_infoc f
 have R3:=RowAt.new w (fun _=>0)
 have HB:Below w.heap.size w (w.alloc (.cells (arr fun _=>0) 127)):=(Below.refl _ _).alloc (Nat.le_refl _) _
 rw [<-arr_zero] at R3 HB
 go_enter Tryz.func62,Tryz.ntmps62
 go_wp2_with fail
 go_region
 go_wp2_with fail
 rw [arr_zero] at R3 HB
 rw [arr_zero]
 generalize w.alloc (.cells (arr fun _=>0) 127)=w0 at *
 obtain ⟨g3,hg3⟩:∃ g3,w.heap.size=g3:=⟨_,rfl⟩
 have hq:Hid (w.heap.size<=g3):=Nat.le_of_eq hg3
 have hg3':w.heap.size=g3:=hg3
 have R3':RowAt w0 g3 (Bk.ptK S 0):=by rw [<-hg3];exact R3.congr (fun i _=>by simp [Bk.ptK])
 clear R3
 rw [hg3']
 clear hg3
 go_loopw [9] (fun i wr=>∃ k:Nat,k<=8/\i=.int .i64 k/\RowAt wr g3 (Bk.ptK S k)/\Below w.heap.size w wr) (fun i _=>8 - (intOf i).toNat)
 case atStart=>exact ⟨0,by omega,rfl,R3',HB.drew⟩
 case round =>
  clear R3' HB
  obtain ⟨k,hk,rfl,R3,HB⟩:=hrel
  by_cases hlt:k<8
  · have hk1:decide ((k:Int)<8)=true:=by simp;omega
    have hk2:decide (k<8)=true:=by simp;omega
    have hks:k<S.size:=by omega
    have hk3:(k:Int)<(S.size:Int):=by omega
    obtain ⟨x,hxx⟩:∃ x:Int,(S[k].toNat:Int)=x:=⟨_,rfl⟩
    have hA:Cd.at8 S k=S[k].toNat:=by unfold Cd.at8;rw [Nm.at_list S k hks];rfl
    have hA2:=Cd.at8_lt S k
    have hx0:0<=x:=by omega
    have hx1:x<=255:=by omega
    obtain ⟨H,hH⟩:∃ H,Cd.at8 S k / 16=H:=⟨_,rfl⟩
    obtain ⟨L,hL⟩:∃ L,Cd.at8 S k % 16=L:=⟨_,rfl⟩
    have e1:x / 16=(H:Int):=by omega
    have e2:x % 16=(L:Int):=by omega
    have e3:x.tdiv 16=(H:Int):=by rw [Int.tdiv_eq_ediv_of_nonneg hx0];exact e1
    have e4:x.tmod 16=(L:Int):=by rw [Int.tmod_eq_emod_of_nonneg hx0];exact e2
    have hH2:H<16:=by omega
    have hL2:L<16:=by omega
    have u1:IntKind.u8.wrap (H:Int)=(H:Int):=IntWalk.u8_in _ ⟨by omega,by omega⟩
    have u2:IntKind.i64.wrap (H:Int)=(H:Int):=IntWalk.i64_in _ ⟨by omega,by omega⟩
    have u3:IntKind.u8.wrap (L:Int)=(L:Int):=IntWalk.u8_in _ ⟨by omega,by omega⟩
    have u4:IntKind.i64.wrap (L:Int)=(L:Int):=IntWalk.i64_in _ ⟨by omega,by omega⟩
    obtain ⟨K2,hK2e⟩:∃ K2,2*k=K2:=⟨_,rfl⟩
    obtain ⟨K3,hK3e⟩:∃ K3,2*k+1=K3:=⟨_,rfl⟩
    have hK2:K2<16:=by omega
    have hK3:K3<16:=by omega
    have m2:2*(k:Int)=(K2:Int):=by omega
    have m3:(K2:Int)+1=(K3:Int):=by omega
    have hK2i:(K2:Int)<16:=by omega
    have hK3i:(K3:Int)<16:=by omega
    have w4:IntKind.i64.wrap (K2:Int)=(K2:Int):=IntWalk.i64_in _ ⟨by omega,by omega⟩
    have w5:IntKind.i64.wrap (K3:Int)=(K3:Int):=IntWalk.i64_in _ ⟨by omega,by omega⟩
    have c1:=R3.cell K2 hK2
    have f1:=R3.frozen K2
    have c2:=R3.cell K3 hK3
    have f2:=R3.frozen K3
    have S3:=R3.set K2 (H:Int)
    have SB:=HB.setCell (p:=⟨g3,K2,none⟩) (by have:=hq.out;show _<=g3;omega) (.int .i64 (H:Int))
    have T3:=(S3.set K3 (L:Int)).congr (f':=Bk.ptK S (k+1)) (fun i _=>by rw [<-hK2e,<-hK3e,<-hH,<-hL];exact Bk.ptK_next S k i)
    have TB:=SB.setCell (p:=⟨g3,K3,none⟩) (by have:=hq.out;show _<=g3;omega) (.int .i64 (L:Int))
    clear hA hA2 hH hL e1 e2 hK2e hK3e R3 HB S3 SB
    go_wp2_with fail
    go_region
    all_goals go_wp2_with fail
    all_goals go_roundw
    case rel=>exact ⟨k+1,by omega,by go_num,T3,TB.drew⟩
    case measure=>simp [intOf];omega
  · obtain rfl:k=8:=by omega
    have hk1:decide ((8:Int)<8)=false:=by decide
    have R4:=R3.congr (f':=f) (fun i _=>HX.out i)
    clear R3 HX hx
    go_wp2_with fail
    refine (c1 _).mono ?_
    rintro e w1 ⟨rfl,G1⟩
    have R5:=R4.below G1
    have B5:=bch HB G1 (Nat.le_refl _)
    clear R4 HB G1 c1
    go_wp2_with (refine wpList_load_row rfl 127 _ rfl g3 rfl 127 (arr f) (0,0) _ R5.2 Tryz.underlying127 rfl hif ?_)
    refine (c2 _).mono ?_
    rintro e w2 ⟨rfl,G2⟩
    have B6:=bch B5 G2 (Nat.le_refl _)
    clear R5 B5 G2 c2
    go_wp2_with fail
    refine (c3 _).mono ?_
    rintro e w3 ⟨G3,rfl⟩
    have B7:=bch B6 G3 (Nat.le_refl _)
    go_wp2_with fail
    go_ret2
    exact ⟨rfl,B7⟩
theorem unpackOf_2ts (dict b S:ByteArray) (w:World) (hd:dict.size<=256) (hb:b.size<=140737488355328) (h0:0<b.size) (hS:b.extract 1 b.size=S) (hx:(b[0].toNat:Int)=2) (Z:ByteArray) (hZ:S.extract 8 S.size=Z) (h8:¬ S.size<8) (n k:Nat) (Y:ByteArray) (hn:Nm.from_ Z.data.toList=some (n,k)) (hY:Z.extract k Z.size=Y) (X1:ByteArray) (hE:Cd.rd (Bk.pt (S.extract 0 8)) Y (n:Nat)=(X1,0)) (hX:X1.size<=140737488355328) (m:List Tk.T) (hm:readOf dict X1=some m) :
 Calls Tryz.prog 62 #[.string dict,.string b] w fun e w'=>e=.returned (.tuple #[.string (playOf dict m),.bool true])/\Below w.heap.size w w':=by
 have hne:=not_empty (b:=b) (by omega)
 have hb1:(1:Int)<=(b.size:Int):=by omega
 have hb1n:1<=b.size:=by omega
 have hb0:(0:Int)<(b.size:Int):=by omega
 have hbi:(b.size:Int)<=140737488355328:=by omega
 have hs1:=ext_size b 1 b.size
 rw [hS] at hs1
 have hs2:S.size<=140737488355328:=by omega
 have hz1:=ext_size S 8 S.size
 rw [hZ] at hz1
 have hz2:Z.size<=140737488355328:=by omega
 clear hs1 hz1
 have h8':(8:Int)<=(S.size:Int):=by omega
 have h8n:8<=S.size:=by omega
 have h8d:decide ((S.size:Int)<8)=false:=by simp;omega
 have h8s:(S.size:Int)<=140737488355328:=by omega
 have c1:=fun w=>numFrom_yes Z w n k (by omega) hn
 rw [hY] at c1
 have c2:=fun w=>readCode_any (Bk.pt (S.extract 0 8)) Y (n:Nat) w
 rw [hE] at c2
 have c3:=fun w=>from_some hd hX hm w
 have c4:=fun ad cap w h=>played_of hd hm ad cap w h
 clear hn hY hE hm
 generalize playOf dict m=P at *
 have HX:Hid (∀ i,Bk.ptK S 8 i=Bk.pt (S.extract 0 8) i):=pt_ext S
 generalize Bk.pt (S.extract 0 8)=f at *
 have hif:=arr_infoc f
 have R3:=RowAt.new w (fun _=>0)
 have HB:Below w.heap.size w (w.alloc (.cells (arr fun _=>0) 127)):=(Below.refl _ _).alloc (Nat.le_refl _) _
 rw [<-arr_zero] at R3 HB
 go_enter Tryz.func62,Tryz.ntmps62
 go_wp2_with fail
 go_region
 go_wp2_with fail
 rw [arr_zero] at R3 HB
 rw [arr_zero]
 generalize w.alloc (.cells (arr fun _=>0) 127)=w0 at *
 obtain ⟨g3,hg3⟩:∃ g3,w.heap.size=g3:=⟨_,rfl⟩
 have hq:Hid (w.heap.size<=g3):=Nat.le_of_eq hg3
 have hg3':w.heap.size=g3:=hg3
 have R3':RowAt w0 g3 (Bk.ptK S 0):=by rw [<-hg3];exact R3.congr (fun i _=>by simp [Bk.ptK])
 clear R3
 rw [hg3']
 clear hg3
 go_loopw [9] (fun i wr=>∃ k:Nat,k<=8/\i=.int .i64 k/\RowAt wr g3 (Bk.ptK S k)/\Below w.heap.size w wr) (fun i _=>8 - (intOf i).toNat)
 case atStart=>exact ⟨0,by omega,rfl,R3',HB.drew⟩
 case round =>
  clear R3' HB
  obtain ⟨k,hk,rfl,R3,HB⟩:=hrel
  by_cases hlt:k<8
  · have hk1:decide ((k:Int)<8)=true:=by simp;omega
    have hk2:decide (k<8)=true:=by simp;omega
    have hks:k<S.size:=by omega
    have hk3:(k:Int)<(S.size:Int):=by omega
    obtain ⟨x,hxx⟩:∃ x:Int,(S[k].toNat:Int)=x:=⟨_,rfl⟩
    have hA:Cd.at8 S k=S[k].toNat:=by unfold Cd.at8;rw [Nm.at_list S k hks];rfl
    have hA2:=Cd.at8_lt S k
    have hx0:0<=x:=by omega
    have hx1:x<=255:=by omega
    obtain ⟨H,hH⟩:∃ H,Cd.at8 S k / 16=H:=⟨_,rfl⟩
    obtain ⟨L,hL⟩:∃ L,Cd.at8 S k % 16=L:=⟨_,rfl⟩
    have e1:x / 16=(H:Int):=by omega
    have e2:x % 16=(L:Int):=by omega
    have e3:x.tdiv 16=(H:Int):=by rw [Int.tdiv_eq_ediv_of_nonneg hx0];exact e1
    have e4:x.tmod 16=(L:Int):=by rw [Int.tmod_eq_emod_of_nonneg hx0];exact e2
    have hH2:H<16:=by omega
    have hL2:L<16:=by omega
    have u1:IntKind.u8.wrap (H:Int)=(H:Int):=IntWalk.u8_in _ ⟨by omega,by omega⟩
    have u2:IntKind.i64.wrap (H:Int)=(H:Int):=IntWalk.i64_in _ ⟨by omega,by omega⟩
    have u3:IntKind.u8.wrap (L:Int)=(L:Int):=IntWalk.u8_in _ ⟨by omega,by omega⟩
    have u4:IntKind.i64.wrap (L:Int)=(L:Int):=IntWalk.i64_in _ ⟨by omega,by omega⟩
    obtain ⟨K2,hK2e⟩:∃ K2,2*k=K2:=⟨_,rfl⟩
    obtain ⟨K3,hK3e⟩:∃ K3,2*k+1=K3:=⟨_,rfl⟩
    have hK2:K2<16:=by omega
    have hK3:K3<16:=by omega
    have m2:2*(k:Int)=(K2:Int):=by omega
    have m3:(K2:Int)+1=(K3:Int):=by omega
    have hK2i:(K2:Int)<16:=by omega
    have hK3i:(K3:Int)<16:=by omega
    have w4:IntKind.i64.wrap (K2:Int)=(K2:Int):=IntWalk.i64_in _ ⟨by omega,by omega⟩
    have w5:IntKind.i64.wrap (K3:Int)=(K3:Int):=IntWalk.i64_in _ ⟨by omega,by omega⟩
    have c1:=R3.cell K2 hK2
    have f1:=R3.frozen K2
    have c2:=R3.cell K3 hK3
    have f2:=R3.frozen K3
    have S3:=R3.set K2 (H:Int)
    have SB:=HB.setCell (p:=⟨g3,K2,none⟩) (by have:=hq.out;show _<=g3;omega) (.int .i64 (H:Int))
    have T3:=(S3.set K3 (L:Int)).congr (f':=Bk.ptK S (k+1)) (fun i _=>by rw [<-hK2e,<-hK3e,<-hH,<-hL];exact Bk.ptK_next S k i)
    have TB:=SB.setCell (p:=⟨g3,K3,none⟩) (by have:=hq.out;show _<=g3;omega) (.int .i64 (L:Int))
    clear hA hA2 hH hL e1 e2 hK2e hK3e R3 HB S3 SB
    go_wp2_with fail
    go_region
    all_goals go_wp2_with fail
    all_goals go_roundw
    case rel=>exact ⟨k+1,by omega,by go_num,T3,TB.drew⟩
    case measure=>simp [intOf];omega
  · obtain rfl:k=8:=by omega
    have hk1:decide ((8:Int)<8)=false:=by decide
    have R4:=R3.congr (f':=f) (fun i _=>HX.out i)
    clear R3 HX hx
    go_wp2_with fail
    refine (c1 _).mono ?_
    rintro e w1 ⟨rfl,G1⟩
    have R5:=R4.below G1
    have B5:=bch HB G1 (Nat.le_refl _)
    clear R4 HB G1 c1
    go_wp2_with (refine wpList_load_row rfl 127 _ rfl g3 rfl 127 (arr f) (0,0) _ R5.2 Tryz.underlying127 rfl hif ?_)
    refine (c2 _).mono ?_
    rintro e w2 ⟨rfl,G2⟩
    have B6:=bch B5 G2 (Nat.le_refl _)
    clear R5 B5 G2 c2
    go_wp2_with fail
    refine (c3 _).mono ?_
    rintro e w3 ⟨G3,ad,cap,rfl,S3⟩
    have B7:=bch B6 G3 (Nat.le_refl _)
    go_wp2_with fail
    refine (c4 ad cap _ S3).mono ?_
    rintro e w4 ⟨rfl,G4⟩
    have B8:=bch B7 G4 (Nat.le_refl _)
    go_wp2_with fail
    go_ret2
    exact ⟨rfl,B8⟩
end Go.Proofs.YtbjbjbpgmojcbabGreat
namespace Go.Proofs.YtbjbjbpgmojcbabGreat
open Go.RowKit
set_option linter.unusedVariables false
def UnpSaid (u:ByteArray × Int) (w:World) (e:Ending) (w':World):Prop:=∃ x,e=.returned (.tuple #[.string x,.bool (decide (u.2=0))])/\(u.2=0->x=u.1)/\(u.2 ≠ 0->u=(⟨#[]⟩,1))/\Below w.heap.size w w'
theorem said_no {u:ByteArray × Int} (hu:u=(⟨#[]⟩,1)) {w:World} {x:ByteArray}:∀ e w',(e=.returned (.tuple #[.string x,.bool false])/\Below w.heap.size w w')->UnpSaid u w e w':=by
 subst hu
 intro e w' h
 exact ⟨x,h.1,fun h9=>absurd h9 (by decide),fun _=>rfl,h.2⟩
theorem said_yes {u:ByteArray × Int} {x:ByteArray} (hu:u=(x,0)) {w:World}:∀ e w',(e=.returned (.tuple #[.string x,.bool true])/\Below w.heap.size w w')->UnpSaid u w e w':=by
 subst hu
 intro e w' h
 exact ⟨x,h.1,fun _=>rfl,fun h9=>absurd rfl h9,h.2⟩
theorem unpackOf_any (dict b:ByteArray) (w:World) (hd:dict.size<=256) (hb:b.size<=140737488355328) :
 Calls Tryz.prog 62 #[.string dict,.string b] w fun e w'=>UnpSaid (Bk.unp dict b) w e w':=by
 by_cases h0:b.size=0
 · have e:Bk.unp dict b=(⟨#[]⟩,1):=by rw [Bk.unp,if_neg (by omega),if_pos h0]
   obtain rfl:b=⟨#[]⟩:=by
    apply ByteArray.ext
    exact Array.eq_empty_of_size_eq_zero h0
   exact (unpackOf_empty dict w).mono (said_no e)
 · have h1:0<b.size:=by omega
   have hA:=at_first h1
   have hU:Bk.unp dict b=if Cd.at8 b 0=0 then Bk.whl (b.extract 1 b.size) else if Cd.at8 b 0=1 then Bk.ply dict (b.extract 1 b.size) else if Cd.at8 b 0=2 then (if (Bk.dec (b.extract 1 b.size)).2=0 then Bk.ply dict (Bk.dec (b.extract 1 b.size)).1 else (⟨#[]⟩,(Bk.dec (b.extract 1 b.size)).2)) else (⟨#[]⟩,1):=by rw [Bk.unp,if_neg (by omega),if_neg h0]
   have hs1:=ext_size b 1 b.size
   obtain ⟨S,hS⟩:∃ S,b.extract 1 b.size=S:=⟨_,rfl⟩
   rw [hS] at hU hs1
   by_cases k0:Cd.at8 b 0=0
   · rw [if_pos k0] at hU
     have c:=unpackOf_0 dict b S w hd hb h1 hS (by omega)
     by_cases hl:512<S.size
     · rw [Bk.whl,if_pos hl] at hU
       rw [decide_eq_false (by omega)] at c
       exact c.mono (said_no hU)
     · rw [Bk.whl,if_neg hl] at hU
       rw [decide_eq_true (by omega)] at c
       exact c.mono (said_yes hU)
   · rw [if_neg k0] at hU
     by_cases k1:Cd.at8 b 0=1
     · rw [if_pos k1] at hU
       cases hm:readOf dict S with
       | none =>
        rw [Bk.ply,hm] at hU
        exact (unpackOf_1n dict b S w hd hb h1 hS (by omega) hm).mono (said_no hU)
       | some m =>
        rw [Bk.ply,hm] at hU
        exact (unpackOf_1s dict b S w hd hb h1 hS (by omega) m hm).mono (said_yes hU)
     · rw [if_neg k1] at hU
       by_cases k2:Cd.at8 b 0=2
       · rw [if_pos k2] at hU
         by_cases h8:S.size<8
         · have e:Bk.dec S=(⟨#[]⟩,1):=by rw [Bk.dec,if_pos h8]
           rw [e,if_neg (by decide)] at hU
           exact (unpackOf_2s dict b S w hd hb h1 hS (by omega) h8).mono (said_no hU)
         · cases hn:Nm.from_ (S.extract 8 S.size).data.toList with
           | none =>
            rw [Bk.dec_none h8 hn,if_neg (by decide)] at hU
            exact (unpackOf_2n dict b S w hd hb h1 hS (by omega) _ rfl h8 hn).mono (said_no hU)
           | some nk =>
            obtain ⟨n,k⟩:=nk
            rw [Bk.dec_some h8 hn] at hU
            by_cases hE:(Cd.rd (Bk.pt (S.extract 0 8)) ((S.extract 8 S.size).extract k (S.extract 8 S.size).size) (n:Nat)).2=0
            · rw [if_pos hE,if_pos rfl] at hU
              have hz:=rd_size _ _ _ hE
              have e9:Cd.rd (Bk.pt (S.extract 0 8)) ((S.extract 8 S.size).extract k (S.extract 8 S.size).size) (n:Nat)=((Cd.rd (Bk.pt (S.extract 0 8)) ((S.extract 8 S.size).extract k (S.extract 8 S.size).size) (n:Nat)).1,0):=by
               rw [<-hE]
              cases hm:readOf dict (Cd.rd (Bk.pt (S.extract 0 8)) ((S.extract 8 S.size).extract k (S.extract 8 S.size).size) (n:Nat)).1 with
              | none =>
               rw [Bk.ply,hm] at hU
               exact (unpackOf_2tn dict b S w hd hb h1 hS (by omega) _ rfl h8 n k _ hn rfl _ e9 hz hm).mono (said_no hU)
              | some m =>
               rw [Bk.ply,hm] at hU
               exact (unpackOf_2ts dict b S w hd hb h1 hS (by omega) _ rfl h8 n k _ hn rfl _ e9 hz m hm).mono (said_yes hU)
            · rw [if_neg hE,if_neg (by decide)] at hU
              exact (unpackOf_2e dict b S w hd hb h1 hS (by omega) _ rfl h8 n k _ hn rfl hE).mono (said_no hU)
       · rw [if_neg k2] at hU
         exact (unpackOf_3 dict b S w hd hb h1 hS (by omega)).mono (said_no hU)
end Go.Proofs.YtbjbjbpgmojcbabGreat
namespace Go.Proofs.YtbjbjbpgmojcbabGreat
open Go.RowKit
theorem textAt_any (ad af:Option Addr) (cd cf:Nat) (a:Ar.A) (i:Nat) (w:World) (h:ArV w ad af a) (hs:SaneA a) (hc:Ar.chk a=0) (hi:i<a.files.length) :
 Calls Tryz.prog 65 #[av ad cd af cf a,.int .i64 (i:Nat)] w fun e w'=>e=.returned (.string (Ar.tx a.dicts (Ar.fa a.files i)))/\Below w.heap.size w w':=by
 have hb:=fun o=>(Below.refl w.heap.size w).alloc (Nat.le_refl _) o
 obtain ⟨m1,m2,m3⟩:=Ar.many_iff.1 (Ar.chk_zero.1 hc).1
 have hok:=Ar.okAt_parts (Ar.gdK_at (Ar.chk_zero.1 hc).2 hi)
 have hh:Ar.has a.dicts (Ar.fa a.files i).dict=true:=(Bool.and_eq_true _ _ ▸ hok.2.2:_/\_).1
 have hup:(Ar.up a.dicts (Ar.fa a.files i)).2=0:=Ar.okf_up hok.2.2
 have C1:Hid (∀ w',Below w.heap.size w w'->Calls Tryz.prog 63 #[av ad cd af cf a,.int .i64 (Ar.fa a.files i).dict] w' fun e w2=>e=.returned (.string (Ar.dct a.dicts (Ar.fa a.files i).dict))/\Below w'.heap.size w' w2):=fun w' h9=>dictOf_any ad af cd cf a _ w' (h.ds.below h9) hs.nd hh
 have C2:Hid (∀ w',Calls Tryz.prog 62 #[.string (Ar.dct a.dicts (Ar.fa a.files i).dict),.string (Ar.fa a.files i).blk] w' fun e w2=>UnpSaid (Ar.up a.dicts (Ar.fa a.files i)) w' e w2):=fun w'=>unpackOf_any _ _ w' (Ar.dct_size (Ar.chk_zero.1 hc).1 _) (hs.bk i)
 obtain ⟨b,off,rfl,hbl,hcell⟩:=h.fs.at hi
 obtain ⟨c0,c1,c2,c3,c4⟩:=hcell
 unfold Ar.tx
 unfold UnpSaid at C2
 unfold av at C1 |-
 generalize Ar.dct a.dicts (Ar.fa a.files i).dict=X at *
 generalize (Ar.fa a.files i).dict=f1 at *
 generalize (Ar.fa a.files i).blk=f4 at *
 obtain ⟨⟨T,E⟩,hTE⟩:∃ p,Ar.up a.dicts (Ar.fa a.files i)=p:=⟨_,rfl⟩
 rw [hTE] at hup C2 |-
 simp only at hup C2 |-
 subst hup
 have C3:Hid (∀ w',Calls Tryz.prog 62 #[.string X,.string f4] w' fun e w2=>e=.returned (.tuple #[.string T,.bool true])/\Below w'.heap.size w' w2):=fun w'=>(C2.out w').mono (by
  rintro e w2 ⟨x,rfl,h1,_,G⟩
  exact ⟨by rw [h1 rfl];rfl,G⟩)
 clear C2
 clear hTE hok hh h hs hc c0 c2 c3
 generalize a.dicts.length=D at *
 generalize a.files.length=N at *
 have hii:(i:Int)<(N:Int):=by omega
 have hNi:(N:Int)<=12:=by omega
 go_enter Tryz.func65,Tryz.ntmps65
 go_wp2_with fail
 have a0:(w.alloc (.cells #[.slice ad D cd,.slice (some ⟨b,off,none⟩) N cf] 25 (0,0))).cell? ⟨w.heap.size,0,none⟩=some (.slice ad D cd):=World.cell?_alloc_new _ _ _ 0
 have a1:(w.alloc (.cells #[.slice ad D cd,.slice (some ⟨b,off,none⟩) N cf] 25 (0,0))).cell? ⟨w.heap.size,1,none⟩=some (.slice (some ⟨b,off,none⟩) N cf):=World.cell?_alloc_new _ _ _ 1
 have B1:=hb (.cells #[.slice ad D cd,.slice (some ⟨b,off,none⟩) N cf] 25 (0,0))
 have hz:w.heap.size<(w.alloc (.cells #[.slice ad D cd,.slice (some ⟨b,off,none⟩) N cf] 25 (0,0))).heap.size:=by simp
 generalize (w.alloc (.cells #[.slice ad D cd,.slice (some ⟨b,off,none⟩) N cf] 25 (0,0)))=w1 at *
 have k1:=(B1.cell (p:=⟨b,off+i*5+1,none⟩) hbl).trans c1
 have k4:=(B1.cell (p:=⟨b,off+i*5+4,none⟩) hbl).trans c4
 have hbl1:b<w1.heap.size:=Nat.lt_of_lt_of_le hbl B1.size
 have HS:Hid (∀ w',Below w1.heap.size w1 w'->Below w1.heap.size w1 w'/\w'.cell? ⟨w.heap.size,0,none⟩=some (.slice ad D cd)/\w'.cell? ⟨w.heap.size,1,none⟩=some (.slice (some ⟨b,off,none⟩) N cf)/\w'.cell? ⟨b,off+i*5+1,none⟩=some (.int .i64 f1)/\w'.cell? ⟨b,off+i*5+4,none⟩=some (.string f4)):=fun w' h9 =>
  ⟨h9,(h9.cell (p:=⟨w.heap.size,0,none⟩) hz).trans a0,(h9.cell (p:=⟨w.heap.size,1,none⟩) hz).trans a1,(h9.cell (p:=⟨b,off+i*5+1,none⟩) hbl1).trans k1,(h9.cell (p:=⟨b,off+i*5+4,none⟩) hbl1).trans k4⟩
 have C1':Hid (∀ w',Below w1.heap.size w1 w'->Calls Tryz.prog 63 #[.agg #[.slice ad D cd,.slice (some ⟨b,off,none⟩) N cf],.int .i64 f1] w' fun e w2=>e=.returned (.string X)/\Below w'.heap.size w' w2):=fun w' h9=>C1.out w' (bch B1 h9 (Nat.le_refl _))
 clear a0 a1 k1 k4 c1 c4 C1
 go_region_held3 (fun w'=>Below w1.heap.size w1 w'/\w'.cell? ⟨w.heap.size,0,none⟩=some (.slice ad D cd)/\w'.cell? ⟨w.heap.size,1,none⟩=some (.slice (some ⟨b,off,none⟩) N cf)/\w'.cell? ⟨b,off+i*5+1,none⟩=some (.int .i64 f1)/\w'.cell? ⟨b,off+i*5+4,none⟩=some (.string f4))
  (first | (exact HS.out _ ((Below.refl _ _).drew)) | (exact HS.out _ (bch (And.left (by assumption)) G6 (Nat.le_refl _))) | (exact HS.out _ (bch (And.left (by assumption)) G5 (Nat.le_refl _))))
  (first
   | (go_at_call 63;refine (C1'.out _ ?_).mono ?_;exact And.left (by assumption);rintro e w5 ⟨rfl,G5⟩)
   | (go_at_call 62;refine (C3.out _).mono ?_;rintro e w6 ⟨rfl,G6⟩))
 all_goals
  have B6:Below w.heap.size w w6:=bch B1 (bch (bch ((Below.refl _ _).drew) G5 (Nat.le_refl _)) G6 (Nat.le_refl _)) (Nat.le_refl _)
  go_wp2_with fail
  go_ret
  exact ⟨rfl,B6⟩
end Go.Proofs.YtbjbjbpgmojcbabGreat
