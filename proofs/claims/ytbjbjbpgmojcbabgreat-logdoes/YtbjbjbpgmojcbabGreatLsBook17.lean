/- A part of the proof: what it leans on. -/
import Derived.OrdersHeld
import Derived.Test.YtbjbjbpgmojcbabGreatLsBook16
set_option maxRecDepth 8000
set_option maxHeartbeats 8000000
namespace Go.Proofs.YtbjbjbpgmojcbabGreat
open Go.RowKit
theorem ZhO (ad af:Option Addr) (cd cf:Nat) (a:Ar.A) (size:Int) (w:World) (h:ArV w ad af a) (hs:SaneA a) (hE:Ar.retE a size=0) :
 Calls Tryz.prog 28 #[av ad cd af cf a,.int .i64 size] w fun e w'=>ArSaid w ⟨Ar.retD a size,a.files.map (Ar.reF a size)⟩ 0 e w':=by
 obtain ⟨hc,hzz1,hzz2,h4⟩:=Ar.Zcv hE;obtain ⟨i0,hi,hz0,hz1,hz2⟩:=info_parts (P:=Tryz.prog) (e:=9) (z:=.string ⟨#[]⟩) (size:=1) (bytes:=16) (by kernel_rfl);obtain ⟨j0,gi,gz0,gz1,gz2⟩:=info_parts (P:=Tryz.prog) (e:=46) (z:=.agg #[.string ⟨#[]⟩,.int .i64 0,.int .i64 0,.int .i64 0,.string ⟨#[]⟩]) (size:=5) (bytes:=56) (by kernel_rfl);obtain ⟨m1,m2,m3⟩:=Ar.Zw.1 (Ar.Zd.1 hc).1;have C1:Hid (∀ w',Below w.heap.size w w'->Calls Tryz.prog 19 #[av ad cd af cf a] w' fun e w2=>e=.returned (.int .i64 (Ar.chk a))/\Below w'.heap.size w' w2):=fun w' h9=>Zs ad af cd cf a w' (h.below h9) hs
 have C2:Hid (∀ w',Calls Tryz.prog 57 #[.int .i64 size,.int .i64 0,.int .i64 256] w' fun e w2=>e=.returned (.bool (decide (0<=size/\size<=256)))/\w2=w'):=fun w'=>ZJ size 0 256 w'
 have C3:Hid (∀ k,k<a.files.length->∀ w',Below w.heap.size w w'->Calls Tryz.prog 65 #[av ad cd af cf a,.int .i64 (k:Nat)] w' fun e w2=>e=.returned (.string (Ar.tx a.dicts (Ar.fa a.files k)))/\Below w'.heap.size w' w2):=fun k hk w' h9=>Zly ad af cd cf a k w' (h.below h9) hs hc hk
 have hT:=Ar.ZcZ hc;have HTl:Hid ((Ar.txs a).length=a.files.length):=by show _=_;unfold Ar.txs;rw [List.length_map]
 have C4:Hid (∀ w' adt capt,TxSl w' adt (Ar.txs a)->Calls Tryz.prog 70 #[.slice adt a.files.length capt,.int .i64 size] w' fun e w2=>e=.returned (.string (Tr.trn (Ar.txs a) size.toNat))/\Below w'.heap.size w' w2):=fun w' adt capt h9=>by
  have:=Zjd (Ar.txs a) size adt capt w' h9 hT.1 (fun i=>by
   by_cases hi:i<(Ar.txs a).length
   ·have e:Tr.xa (Ar.txs a) i=(Ar.txs a)[i]:=by simp [Tr.xa,hi]
    rw [e];exact hT.2 _ (gM hi)
   ·have e:Tr.xa (Ar.txs a) i=⟨#[]⟩:=by simp [Tr.xa,hi]
    rw [e];exact Nat.zero_le _) hzz1 hzz2
  rw [HTl.out] at this;exact this
 have hmr:=Ar.Zfw hE;have hrl:(Ar.retD a size).length=a.dicts.length+1:=by unfold Ar.retD;rw [List.length_append];rfl
 have hrm:(Ar.retD a size).map Value.string=a.dicts.map Value.string++[.string (Tr.trn (Ar.txs a) size.toNat)]:=by unfold Ar.retD;rw [List.map_append];rfl
 have C5:Hid (∀ w' adx cdx afx cfx nfx m,m<a.files.length->TxSl w' adx (Ar.retD a size)->Calls Tryz.prog 58 #[.agg #[.slice adx (a.dicts.length+1) cdx,.slice afx nfx cfx],.string (Ar.fa a.files m).name,.string (Ar.tx a.dicts (Ar.fa a.files m)),.int .i64 ((a.dicts.length:Int)+1)] w' fun e w2=>e=.returned (fv (Ar.reF a size (Ar.fa a.files m)))/\Below w'.heap.size w' w2):=fun w' adx cdx afx cfx nfx m hm hx=>by
  have hmem:Ar.fa a.files m ∈ a.files:=by rw [Ar.ZaJ hm];exact gM hm
  have:=Zfq adx afx cdx cfx ⟨Ar.retD a size,List.replicate nfx Ar.fz⟩ (Ar.fa a.files m).name (Ar.tx a.dicts (Ar.fa a.files m)) ((a.dicts.length:Int)+1) w' hx (by show (Ar.retD a size).length<=_;omega) (by show Ar.has (Ar.retD a size) _=true;unfold Ar.has;rw [hrl];exact zdT ⟨by omega,by omega⟩) (by have:=Ar.ZaM hmr ((a.dicts.length:Int)+1);exact this) (Ar.Zdq hc hmem);unfold av at this;simp only [hrl,List.length_replicate] at this;exact this
 have HDn:Hid (∀ w',Below w.heap.size w w'->(a.dicts.length=0\/∃ b,ad=some b/\∀ j u,(a.dicts.map Value.string)[j]?=some u->w'.cell? (b.add j)=some u)):=fun w' h9=>(h.ds.below h9).news
 have HFl:Hid (∀ k,k<a.files.length->∃ b off,af=some ⟨b,off,none⟩/\b<w.heap.size/\Hid (∀ w',Below w.heap.size w w'->w'.cell? ⟨b,off+k*5,none⟩=some (.string (Ar.fa a.files k).name))):=fun k hk=>by
  obtain ⟨b,off,h1,h2,h3⟩:=h.fs.at hk;exact ⟨b,off,h1,h2,fun w' h9=>(h3.below h9 h2).c0⟩
 have HDl:Hid ((a.dicts.map Value.string).length=a.dicts.length*1):=by show _=_;simp
 have HD1:Hid (∀ u ∈ a.dicts.map Value.string,u.oneCell'=true):=fun u hu=>by obtain ⟨x,_,rfl⟩:=List.mem_map.1 hu;rfl
 have HTK:Hid (∀ k,k<a.files.length->Ar.txK a (k+1)=Ar.txK a k++[Ar.tx a.dicts (Ar.fa a.files k)]):=fun k hk=>Ar.Zkm hk
 have HTA:Hid (Ar.txK a a.files.length=Ar.txs a):=Ar.Znm a;have HT5:Hid (∀ k,k<a.files.length->(Ar.tx a.dicts (Ar.fa a.files k)).size<=512):=fun k hk=>Ar.Zdq hc (by rw [Ar.ZaJ hk];exact gM hk)
 have HTx:Hid (∀ k,k<a.files.length->Tr.xa (Ar.txs a) k=Ar.tx a.dicts (Ar.fa a.files k)):=fun k hk=>by unfold Ar.txs;simp [Tr.xa,Ar.fa,hk]
 have HOw:Hid (∀ lo w' v,w'.ownsRow lo 9 1 v a.files.length ((Ar.txs a).map Value.string)->∃ adt capt,v=.slice adt a.files.length capt/\TxSl w' adt (Ar.txs a)):=fun lo w' v h9=>by
  rw [<-HTl.out] at h9 |-
  obtain ⟨adt,capt,h1,_,h2⟩:=Zfb h9;exact ⟨adt,capt,h1,TxFar.sl h2⟩
 have HRx:Hid (∀ lo w' adx cdx,w'.ownsRow lo 9 1 (.slice adx (a.dicts.length+1) cdx) (a.dicts.length+1) (a.dicts.map Value.string++[.string (Tr.trn (Ar.txs a) size.toNat)])->TxSl w' adx (Ar.retD a size)):=fun lo w' adx cdx h9=>by
  rw [<-hrm,<-hrl] at h9;obtain ⟨ad2,cap2,e2,_,h5⟩:=Zfb h9;simp only [Value.slice.injEq] at e2;obtain ⟨rfl,_,rfl⟩:=e2;exact TxFar.sl h5
 have hQ1:Hid (∀ v1 v2 w',w'.ownsRow w.heap.size 9 1 v1 (a.dicts.length+1) (a.dicts.map Value.string++[.string (Tr.trn (Ar.txs a) size.toNat)])->w'.ownsRow w.heap.size 46 5 v2 a.files.length (fcs ((a.files.take a.files.length).map (Ar.reF a size)))->(∀ j,v1.ownBlock=some j->v2.ownBlock ≠ some j)->Below w.heap.size w w'->ArSaid w ⟨Ar.retD a size,a.files.map (Ar.reF a size)⟩ 0 (.returned (.tuple #[.agg #[v1,v2],.int .i64 0])) w'):=fun v1 v2 w' k1 k2 k3 k4=>by
  rw [List.take_length] at k2;rw [<-hrm,<-hrl] at k1;exact ⟨v1,v2,rfl,⟨k1,by show w'.ownsRow _ _ _ _ (a.files.map (Ar.reF a size)).length _;rw [List.length_map];exact k2,k3⟩,k4⟩
 generalize ArSaid w ⟨Ar.retD a size,a.files.map (Ar.reF a size)⟩ 0=Q at *;have HFS:Hid (∀ k,k<a.files.length->fcs ((a.files.take (k+1)).map (Ar.reF a size))=fcs ((a.files.take k).map (Ar.reF a size))++[.string (Ar.reF a size (Ar.fa a.files k)).name,.int .i64 (Ar.reF a size (Ar.fa a.files k)).dict,.int .i64 (Ar.reF a size (Ar.fa a.files k)).size,.int .i64 (Ar.reF a size (Ar.fa a.files k)).sum,.string (Ar.reF a size (Ar.fa a.files k)).blk]):=fun k hk=>by rw [Ar.ZQ hk,List.map_append,Zz];rfl
 have HF0:Hid (fcs ((a.files.take 0).map (Ar.reF a size))=[]):=rfl;rw [hc] at C1;rw [decide_eq_true ⟨hzz1,hzz2⟩] at C2;unfold av at C1 C3 |-
 unfold fv at C5;clear h hs hE hc m3 hT hmr hrl hrm;generalize Tr.trn (Ar.txs a) size.toNat=X at *;generalize Ar.retD a size=rd at *;generalize Ar.reF a size=rf at *
 obtain ⟨D,hDD⟩:∃ D,a.dicts.length=D:=⟨_,rfl⟩
 obtain ⟨N,hNN⟩:∃ N,a.files.length=N:=⟨_,rfl⟩
 simp only [hDD,hNN] at C1 C3 C4 C5 HDn HFl HDl HTK HTA HT5 HTx HOw HRx hQ1 HFS HTl m1 m2 h4 |-
 clear hDD hNN;generalize a.dicts.map Value.string=ds at *;generalize Ar.fa a.files=fa at *;generalize Ar.tx a.dicts=tx at *;have hDi:(D:Int)<=4:=by omega
 have hNi:(N:Int)<=12:=by omega
 have d4:decide ((4:Int)<=(D:Int))=false:=dF (by omega);have d4':decide (4<=D)=false:=dF (by omega);go_enter Tryz.func28,Tryz.ntmps28
 go_wp2_with fail
 refine (C1.out _ (Fr.start w _ _).b).mono ?_;rintro e w1 ⟨rfl,G1⟩;have F1:=(Fr.start w _ _).next G1;clear G1 C1;obtain ⟨b,a0,a1,r0,r1,z0,z1,hz⟩:=id F1;go_wp2_with fail
 refine (C2.out _).mono ?_;rintro e w3 ⟨rfl,rfl⟩;clear C2;go_wp2_with fail
 clear b a0 a1 r0 r1 z0 z1;go_loopw [7,8] (fun l i wr=>∃ (k:Nat),k<=N/\i=.int .i64 k/\wr.ownsRow w3.heap.size 9 1 l k ((Ar.txK a k).map Value.string)/\Below w3.heap.size w3 wr) (fun _ i _=>N - (intOf i).toNat)
 case atStart=>exact ⟨0,by omega,rfl,⟨rfl,.inl ⟨rfl,rfl⟩⟩,bR _ _⟩
 case round =>
  rename_i vl _
  obtain ⟨k,hk2,rfl,hrow,B1⟩:=hrel;have F2:=F1.next B1;obtain ⟨B2,a0,a1,r0,r1,z0,z1,hzF⟩:=id F2;by_cases hlt:k<N
  ·have e1:decide ((k:Int)<(N:Int))=true:=zdT (by omega);have e1':decide (k<N)=true:=zdT hlt;have hki:(k:Int)<(N:Int):=by omega
   have c3:=C3.out k hlt wr B2;have HN:=HTK.out k hlt;have hT5:=HT5.out k hlt;generalize tx (fa k)=T at *;go_wp2_with fail
   refine c3.mono ?_;rintro e w4 ⟨rfl,G⟩;have hrow4:=Zh hrow G;have B4:Below w3.heap.size w3 w4:=bch B1 G (nl _);have hz4:=B4.size;clear G hrow c3 a0 a1 r0 r1 z0 z1
   go_wp2_with (first
    | (at_builtin;refine wpList_append_own _ rfl _ _ 22 rfl w3.heap.size 9 i0 (.string ⟨#[]⟩) 1 16 U22 hi hz0 hz1 hz2 rfl (by decide) _ _ _ rfl (hrow4.alloc _) ⟨w4.heap.size,0,none⟩ 1 1 [.string T] rfl rfl (cell_one_new _ _ _) (by simp [Value.oneCell']) (by unfold maxLen at *;omega) (by omega) (by simp;omega) ?_;intro v' w5 hown' hg5 hnil5;go_frame)
    | fail)
   have B5:Below w3.heap.size w3 w5:=(B4.alloc B4.size (.cells #[.string T] 9 (0,0))).grown hg5 (by simp;omega) (fun j hj=>(hrow4.lt j hj).1);go_roundw
   case rel=>exact ⟨k+1,by omega,by go_num,by rw [HN,List.map_append];exact hown',B5⟩
   case measure=>simp [intOf];omega
  ·obtain rfl:k=N:=by omega
   have e1:decide ((k:Int)<(k:Int))=false:=by simp
   rw [HTA.out] at hrow;obtain ⟨adt,capt,rfl,htx⟩:=HOw.out _ _ _ hrow;have hzw:w.heap.size<wr.heap.size:=by omega
   have O0:=ZcO wr wr.heap.size 9 1 (nl _);have hD2:=HDn.out _ (B2.alloc (by have:=B2.size;omega) (.cells #[] 9 (0,0)));have hds1:=HDl.out;have hds2:=HD1.out
   go_wp2_with (first
    | (at_builtin;refine Zac rfl _ _ 22 rfl wr.heap.size 9 i0 (.string ⟨#[]⟩) 1 16 U22 hi hz0 hz1 hz2 rfl (by decide) wr.heap.size 0 0 [] rfl O0 ad D cd ds rfl hds1 hD2 hds2 (by unfold maxLen;omega) (by omega) (by simp) _ rfl ?_;intro g cp w5 hown5 hgrow5 hat5)
    | fail)
   have BX:Below wr.heap.size wr w5:=((bR _ _).alloc (nl _) _).grown hgrow5 (by simp) (fun j hj=>by simp at hj;omega);simp only [Nat.zero_add,List.nil_append] at hown5 |-
   clear O0 hD2 hds1 hds2 hgrow5 hat5 HDn HDl HD1;refine (C4.out w5 adt capt (htx.below BX)).mono ?_;rintro e w6 ⟨rfl,G6⟩;have hown6:=Zh hown5 G6;have B6:Below wr.heap.size wr w6:=bch BX G6 (nl _);have hz6:=B6.size;clear G6 hown5 BX C4 a0 a1 r0 r1 z0 z1
   go_wp2_with (first
    | (at_builtin;refine zwL _ rfl _ _ 22 rfl wr.heap.size 9 i0 (.string ⟨#[]⟩) 1 16 U22 hi hz0 hz1 hz2 rfl (by decide) (.slice (some ⟨g,0,none⟩) D cp) D ds rfl (hown6.alloc _) ⟨w6.heap.size,0,none⟩ 1 1 [.string X] rfl rfl (cell_one_new _ _ _) (by simp [Value.oneCell']) (by decide) (by unfold maxLen;omega) (by omega) (by simp;omega) _ rfl ?_;intro g2 cp2 w7 hown7 hgrow7 hat7 hlt7)
    | fail)
   have B7:Below wr.heap.size wr w7:=(B6.alloc B6.size (.cells #[.string X] 9 (0,0))).grown hgrow7 (by simp;omega) (fun j hj=>(hown6.lt j hj).1);have S0:=CpS.new1 B7 B7.size hown7;clear hgrow7 hat7 hlt7 hown7 hown6 B6 hz6 B7;generalize (w7.alloc (.cells #[.slice (some ⟨g2,0,none⟩) (D+1) cp2,.slice none 0 0] 25 (0,0)))=w8 at *;generalize w7.heap.size=C at *;generalize hw4:wr=w4 at *;clear hw4;go_loopw [10] (fun i wr=>∃ (m:Nat) (v2:Value),m<=k/\i=.int .i64 m/\CpS w4 wr C w4.heap.size (.slice (some ⟨g2,0,none⟩) (D+1) cp2) v2 (D+1) m (ds++[.string X]) (fcs ((a.files.take m).map rf))) (fun i _=>k - (intOf i).toNat)
   case atStart=>exact ⟨0,_,by omega,rfl,by rw [HF0.out];exact S0⟩
   case round =>
    obtain ⟨m,v2,hm2,rfl,S1⟩:=hrel;have F4:=F2.keep S1.bel hzF;obtain ⟨B4,a0,a1,r0,r1,z0,z1,hz4⟩:=id F4;by_cases hlm:m<k
    ·have e2:decide ((m:Int)<(k:Int))=true:=zdT (by omega);have e2':decide (m<k)=true:=zdT hlm;have hmi:(m:Int)<(k:Int):=by omega
     obtain ⟨b,off,rfl,hbw,HFw⟩:=HFl.out m hlm;have c0:=HFw.out wr B4;have hbl:b<wr.heap.size:=nT hbw B4.size;obtain ⟨bt,ot,rfl,hbt,htc⟩:=htx.at (i:=m) (by rw [HTl.out];exact hlm)
     rw [HTx.out m hlm] at htc;have HT2:Hid (∀ w',Below w4.heap.size w4 w'->w'.cell? ⟨bt,ot+m,none⟩=some (.string (tx (fa m)))):=fun w' h9=>(h9.cell (p:=⟨bt,ot+m,none⟩) hbt).trans htc
     clear htc;have hbtw:bt<wr.heap.size:=nT hbt S1.bel.size;have c1S:=S1.c1;have c0S:=S1.c0;have f1S:=S1.f1;have hbC:=S1.hb;have hlC:=S1.hC;obtain ⟨p2,q2,rfl,_⟩:=Zk S1.o2;have HN:=HFS.out m hlm;have htd:=HRx.out _ _ _ _ S1.o1;have CP:Hid (∀ w',Below wr.heap.size wr w'->Calls Tryz.prog 58 #[.agg #[.slice (some ⟨g2,0,none⟩) (D+1) cp2,.slice p2 m q2],.string (fa m).name,.string (tx (fa m)),.int .i64 ((D:Int)+1)] w' fun e w2=>e=.returned (.agg #[.string (rf (fa m)).name,.int .i64 (rf (fa m)).dict,.int .i64 (rf (fa m)).size,.int .i64 (rf (fa m)).sum,.string (rf (fa m)).blk])/\Below w'.heap.size w' w2):=fun w' h9=>C5.out w' _ _ _ _ _ m hlm (htd.below h9)
     clear htd;generalize (rf (fa m)).name=n0 at *;generalize (rf (fa m)).dict=n1 at *;generalize (rf (fa m)).size=n2 at *;generalize (rf (fa m)).sum=n3 at *;generalize (rf (fa m)).blk=n4 at *;generalize (fa m).name=f0 at *;generalize tx (fa m)=tm at *;go_wp2_with fail
     have HSS:Hid (∀ w',Below w4.heap.size w4 w'->w'.cell? ⟨C,0,none⟩=some (.slice (some ⟨g2,0,none⟩) (D+1) cp2)->(fun w'=>w'.cell? ⟨w.heap.size,1,none⟩=some (.slice (some ⟨b,off,none⟩) k cf)/\w'.cell? ⟨b,off+m*5,none⟩=some (.string f0)/\w'.cell? ⟨bt,ot+m,none⟩=some (.string tm)/\w'.cell? ⟨C,0,none⟩=some (.slice (some ⟨g2,0,none⟩) (D+1) cp2)) w'):=fun w' h9 h8=>⟨(F2.keep h9 hzF).a1,HFw.out w' (F2.keep h9 hzF).b,HT2.out w' h9,h8⟩
     refine wp_region_held_drew (S:=fun w'=>w'.cell? ⟨w.heap.size,1,none⟩=some (.slice (some ⟨b,off,none⟩) k cf)/\w'.cell? ⟨b,off+m*5,none⟩=some (.string f0)/\w'.cell? ⟨bt,ot+m,none⟩=some (.string tm)/\w'.cell? ⟨C,0,none⟩=some (.slice (some ⟨g2,0,none⟩) (D+1) cp2)) (by kernel_rfl) (HSS.out _ S1.bel.drew c0S) (fun hS=>?_);refine wK (i:=0) (fuel:=20) (v:=.pointer (some ⟨C,1,none⟩)) rfl (by kernel_rfl) (by kernel_rfl) (by kernel_rfl) (fun _ _ _ h=>h) (Or.inl ⟨by rfl,fun w' h9=>by obtain ⟨k1,k2,k3,k4⟩:=h9;go_simp⟩) hS ?_;refine wK (i:=3) (fuel:=19) (v:=.pointer (some ⟨w.heap.size,1,none⟩)) rfl (by kernel_rfl) (by kernel_rfl) (by kernel_rfl) (fun _ _ _ h=>h) (Or.inl ⟨by rfl,fun w' h9=>by obtain ⟨k1,k2,k3,k4⟩:=h9;go_simp⟩) hS ?_;refine wK (i:=4) (fuel:=18) (v:=.slice (some ⟨b,off,none⟩) k cf) rfl (by kernel_rfl) (by kernel_rfl) (by kernel_rfl) (fun _ _ _ h=>h) (Or.inl ⟨by rfl,fun w' h9=>by obtain ⟨k1,k2,k3,k4⟩:=h9;go_simp⟩) hS ?_;refine wK (i:=5) (fuel:=17) (v:=.int .i64 (m:Nat)) rfl (by kernel_rfl) (by kernel_rfl) (by kernel_rfl) (fun _ _ _ h=>h) (Or.inl ⟨by rfl,fun w' h9=>by obtain ⟨k1,k2,k3,k4⟩:=h9;go_simp⟩) hS ?_;refine wK (i:=6) (fuel:=16) (v:=.pointer (some ⟨b,off+m*5,none⟩)) rfl (by kernel_rfl) (by kernel_rfl) (by kernel_rfl) (fun _ _ _ h=>h) (Or.inl ⟨by rfl,fun w' h9=>by obtain ⟨k1,k2,k3,k4⟩:=h9;go_simp⟩) hS ?_;refine wK (i:=7) (fuel:=15) (v:=.pointer (some ⟨b,off+m*5,none⟩)) rfl (by kernel_rfl) (by kernel_rfl) (by kernel_rfl) (fun _ _ _ h=>h) (Or.inl ⟨by rfl,fun w' h9=>by obtain ⟨k1,k2,k3,k4⟩:=h9;go_simp⟩) hS ?_;refine wK (i:=8) (fuel:=14) (v:=.string f0) rfl (by kernel_rfl) (by kernel_rfl) (by kernel_rfl) (fun _ _ _ h=>h) (Or.inl ⟨by rfl,fun w' h9=>by obtain ⟨k1,k2,k3,k4⟩:=h9;go_simp⟩) hS ?_;refine wK (i:=9) (fuel:=13) (v:=.slice (some ⟨bt,ot,none⟩) k capt) rfl (by kernel_rfl) (by kernel_rfl) (by kernel_rfl) (fun _ _ _ h=>h) (Or.inl ⟨by rfl,fun w' h9=>by obtain ⟨k1,k2,k3,k4⟩:=h9;go_simp⟩) hS ?_;refine wK (i:=10) (fuel:=12) (v:=.int .i64 (m:Nat)) rfl (by kernel_rfl) (by kernel_rfl) (by kernel_rfl) (fun _ _ _ h=>h) (Or.inl ⟨by rfl,fun w' h9=>by obtain ⟨k1,k2,k3,k4⟩:=h9;go_simp⟩) hS ?_;refine wK (i:=11) (fuel:=11) (v:=.pointer (some ⟨bt,ot+m,none⟩)) rfl (by kernel_rfl) (by kernel_rfl) (by kernel_rfl) (fun _ _ _ h=>h) (Or.inl ⟨by rfl,fun w' h9=>by obtain ⟨k1,k2,k3,k4⟩:=h9;go_simp⟩) hS ?_;refine wK (i:=12) (fuel:=10) (v:=.string tm) rfl (by kernel_rfl) (by kernel_rfl) (by kernel_rfl) (fun _ _ _ h=>h) (Or.inl ⟨by rfl,fun w' h9=>by obtain ⟨k1,k2,k3,k4⟩:=h9;go_simp⟩) hS ?_;refine wK (i:=13) (fuel:=9) (v:=.pointer (some ⟨C,0,none⟩)) rfl (by kernel_rfl) (by kernel_rfl) (by kernel_rfl) (fun _ _ _ h=>h) (Or.inl ⟨by rfl,fun w' h9=>by obtain ⟨k1,k2,k3,k4⟩:=h9;go_simp⟩) hS ?_;refine wK (i:=14) (fuel:=8) (v:=.slice (some ⟨g2,0,none⟩) (D+1) cp2) rfl (by kernel_rfl) (by kernel_rfl) (by kernel_rfl) (fun _ _ _ h=>h) (Or.inl ⟨by rfl,fun w' h9=>by obtain ⟨k1,k2,k3,k4⟩:=h9;go_simp⟩) hS ?_;refine wK (i:=15) (fuel:=7) (v:=.int .i64 ((D:Int)+1)) rfl (by kernel_rfl) (by kernel_rfl) (by kernel_rfl) (fun _ _ _ h=>h) (Or.inl ⟨by rfl,fun w' h9=>by obtain ⟨k1,k2,k3,k4⟩:=h9;go_simp⟩) hS ?_;clear HFl HTx HTK HT5 C3 C5 HFS HRx HOw HTA HTl HF0 hQ1;refine wY (rs:=[1,2]) (fuel:=6) (by kernel_rfl) (by simp) ?_;refine rC rfl (fun K hK=>?_) (rC rfl (fun K hK=>?_) rN)
     ·go_simp
      refine hK.out _ _ hS (fun _=>?_);clear hK;refine wY (rs:=[2]) (fuel:=5) (by kernel_rfl) (by simp) ?_;refine rC rfl (fun K hK=>?_) rN;go_simp
      refine hK.out _ _ hS (fun _=>?_);clear hK;refine wY (rs:=[16]) (fuel:=4) (by kernel_rfl) (by simp) ?_;refine rC rfl (fun K hK=>?_) rN;go_simp
      refine (CP.out _ ((bR _ _).drew)).mono ?_;rintro e t8 ⟨rfl,G8⟩;have S2:=S1.below (Below.trans ((bR _ _).drew) G8);have c1T:=S2.c1;have hbT:=S2.hb
      have c9T:∀ o,(t8.alloc o).cell? ⟨C,1,none⟩=some (.slice p2 m q2):=(fun o=>(cA _ _ _ hbT).trans c1T)
      have hS8:=HSS.out _ S2.bel S2.c0;refine hK.out _ _ hS8 (fun _=>?_);clear hK;refine wY (rs:=[17]) (fuel:=3) (by kernel_rfl) (by simp) ?_;refine rC rfl (fun K hK=>?_) rN;go_simp
      have SA:=S2.below ((bR _ _).alloc (nl _) (.cells #[.string n0,.int .i64 n1,.int .i64 n2,.int .i64 n3,.string n4] 46 (0,0)));have hS9:=HSS.out _ SA.bel SA.c0;refine hK.out _ _ hS9 (fun _=>?_);clear hK;refine wY (rs:=[18]) (fuel:=2) (by kernel_rfl) (by simp) ?_;refine rC rfl (fun K hK=>?_) rN;refine zsL _ rfl _ _ 23 rfl w4.heap.size 46 j0 (.agg #[.string ⟨#[]⟩,.int .i64 0,.int .i64 0,.int .i64 0,.string ⟨#[]⟩]) 5 56 U23 gi gz0 gz1 gz2 rfl (by decide) _ _ _ rfl (S2.o2.alloc _) ⟨t8.heap.size,0,none⟩ 1 1 [.string n0,.int .i64 n1,.int .i64 n2,.int .i64 n3,.string n4] rfl rfl (ZdR _ _ _ _ _ _ _) (one5 _ _ _ _ _) (by decide) (by unfold maxLen;omega) (by omega) (by simp;omega) _ rfl ?_;intro g7 cp7 t7 hown7 hgrow7 hat7 hlt7;obtain ⟨⟨q1,q2⟩,S4⟩:=S2.put2 hgrow7 hown7 hat7;have hM7:=S2.mid2 hgrow7;have hS7:=HSS.out _ hM7.2 hM7.1;clear hgrow7 hown7 hat7 hlt7 hM7;refine hK.out _ _ hS7 (fun _=>?_);clear hK;refine wY (rs:=[19]) (fuel:=1) (by kernel_rfl) (by simp) ?_;refine rC rfl (fun K hK=>?_) rN;go_simp
      refine hK.out _ _ hS7 (fun _=>?_);clear hK;refine wY (rs:=[20]) (fuel:=0) (by kernel_rfl) (by simp) ?_;refine rC rfl (fun K hK=>?_) rN;go_simp
      refine hK.out _ _ (HSS.out _ S4.bel S4.c0) (fun _=>?_);clear hK;refine ⟨by kernel_rfl,?_⟩;go_wp2_with fail
      go_roundw
      case rel=>exact ⟨m+1,_,by omega,by go_num,by rw [HN];exact S4⟩
      case measure=>simp [intOf];omega
     ·go_simp
      refine hK.out _ _ hS (fun _=>?_);clear hK;refine wY (rs:=[1,16]) (fuel:=5) (by kernel_rfl) (by simp) ?_;refine rC rfl (fun K hK=>?_) (rC rfl (fun K hK=>?_) rN)
      ·go_simp
       refine hK.out _ _ hS (fun _=>?_);clear hK;refine wY (rs:=[16]) (fuel:=4) (by kernel_rfl) (by simp) ?_;refine rC rfl (fun K hK=>?_) rN;go_simp
       refine (CP.out _ ((bR _ _).drew)).mono ?_;rintro e t8 ⟨rfl,G8⟩;have S2:=S1.below (Below.trans ((bR _ _).drew) G8);have c1T:=S2.c1;have hbT:=S2.hb
       have c9T:∀ o,(t8.alloc o).cell? ⟨C,1,none⟩=some (.slice p2 m q2):=(fun o=>(cA _ _ _ hbT).trans c1T)
       have hS8:=HSS.out _ S2.bel S2.c0;refine hK.out _ _ hS8 (fun _=>?_);clear hK;refine wY (rs:=[17]) (fuel:=3) (by kernel_rfl) (by simp) ?_;refine rC rfl (fun K hK=>?_) rN;go_simp
       have SA:=S2.below ((bR _ _).alloc (nl _) (.cells #[.string n0,.int .i64 n1,.int .i64 n2,.int .i64 n3,.string n4] 46 (0,0)));have hS9:=HSS.out _ SA.bel SA.c0;refine hK.out _ _ hS9 (fun _=>?_);clear hK;refine wY (rs:=[18]) (fuel:=2) (by kernel_rfl) (by simp) ?_;refine rC rfl (fun K hK=>?_) rN;refine zsL _ rfl _ _ 23 rfl w4.heap.size 46 j0 (.agg #[.string ⟨#[]⟩,.int .i64 0,.int .i64 0,.int .i64 0,.string ⟨#[]⟩]) 5 56 U23 gi gz0 gz1 gz2 rfl (by decide) _ _ _ rfl (S2.o2.alloc _) ⟨t8.heap.size,0,none⟩ 1 1 [.string n0,.int .i64 n1,.int .i64 n2,.int .i64 n3,.string n4] rfl rfl (ZdR _ _ _ _ _ _ _) (one5 _ _ _ _ _) (by decide) (by unfold maxLen;omega) (by omega) (by simp;omega) _ rfl ?_;intro g7 cp7 t7 hown7 hgrow7 hat7 hlt7;obtain ⟨⟨q1,q2⟩,S4⟩:=S2.put2 hgrow7 hown7 hat7;have hM7:=S2.mid2 hgrow7;have hS7:=HSS.out _ hM7.2 hM7.1;clear hgrow7 hown7 hat7 hlt7 hM7;refine hK.out _ _ hS7 (fun _=>?_);clear hK;refine wY (rs:=[19]) (fuel:=1) (by kernel_rfl) (by simp) ?_;refine rC rfl (fun K hK=>?_) rN;go_simp
       refine hK.out _ _ hS7 (fun _=>?_);clear hK;refine wY (rs:=[20]) (fuel:=0) (by kernel_rfl) (by simp) ?_;refine rC rfl (fun K hK=>?_) rN;go_simp
       refine hK.out _ _ (HSS.out _ S4.bel S4.c0) (fun _=>?_);clear hK;refine ⟨by kernel_rfl,?_⟩;go_wp2_with fail
       go_roundw
       case rel=>exact ⟨m+1,_,by omega,by go_num,by rw [HN];exact S4⟩
       case measure=>simp [intOf];omega
      ·go_simp
       refine (CP.out _ ((bR _ _).drew)).mono ?_;rintro e t8 ⟨rfl,G8⟩;have S2:=S1.below (Below.trans ((bR _ _).drew) G8);have c1T:=S2.c1;have hbT:=S2.hb
       have c9T:∀ o,(t8.alloc o).cell? ⟨C,1,none⟩=some (.slice p2 m q2):=(fun o=>(cA _ _ _ hbT).trans c1T)
       have hS8:=HSS.out _ S2.bel S2.c0;refine hK.out _ _ hS8 (fun _=>?_);clear hK;refine wY (rs:=[1,17]) (fuel:=4) (by kernel_rfl) (by simp) ?_;refine rC rfl (fun K hK=>?_) (rC rfl (fun K hK=>?_) rN)
       ·go_simp
        refine hK.out _ _ hS8 (fun _=>?_);clear hK;refine wY (rs:=[17]) (fuel:=3) (by kernel_rfl) (by simp) ?_;refine rC rfl (fun K hK=>?_) rN;go_simp
        have SA:=S2.below ((bR _ _).alloc (nl _) (.cells #[.string n0,.int .i64 n1,.int .i64 n2,.int .i64 n3,.string n4] 46 (0,0)));have hS9:=HSS.out _ SA.bel SA.c0;refine hK.out _ _ hS9 (fun _=>?_);clear hK;refine wY (rs:=[18]) (fuel:=2) (by kernel_rfl) (by simp) ?_;refine rC rfl (fun K hK=>?_) rN;refine zsL _ rfl _ _ 23 rfl w4.heap.size 46 j0 (.agg #[.string ⟨#[]⟩,.int .i64 0,.int .i64 0,.int .i64 0,.string ⟨#[]⟩]) 5 56 U23 gi gz0 gz1 gz2 rfl (by decide) _ _ _ rfl (S2.o2.alloc _) ⟨t8.heap.size,0,none⟩ 1 1 [.string n0,.int .i64 n1,.int .i64 n2,.int .i64 n3,.string n4] rfl rfl (ZdR _ _ _ _ _ _ _) (one5 _ _ _ _ _) (by decide) (by unfold maxLen;omega) (by omega) (by simp;omega) _ rfl ?_;intro g7 cp7 t7 hown7 hgrow7 hat7 hlt7;obtain ⟨⟨q1,q2⟩,S4⟩:=S2.put2 hgrow7 hown7 hat7;have hM7:=S2.mid2 hgrow7;have hS7:=HSS.out _ hM7.2 hM7.1;clear hgrow7 hown7 hat7 hlt7 hM7;refine hK.out _ _ hS7 (fun _=>?_);clear hK;refine wY (rs:=[19]) (fuel:=1) (by kernel_rfl) (by simp) ?_;refine rC rfl (fun K hK=>?_) rN;go_simp
        refine hK.out _ _ hS7 (fun _=>?_);clear hK;refine wY (rs:=[20]) (fuel:=0) (by kernel_rfl) (by simp) ?_;refine rC rfl (fun K hK=>?_) rN;go_simp
        refine hK.out _ _ (HSS.out _ S4.bel S4.c0) (fun _=>?_);clear hK;refine ⟨by kernel_rfl,?_⟩;go_wp2_with fail
        go_roundw
        case rel=>exact ⟨m+1,_,by omega,by go_num,by rw [HN];exact S4⟩
        case measure=>simp [intOf];omega
       ·go_simp
        have SA:=S2.below ((bR _ _).alloc (nl _) (.cells #[.string n0,.int .i64 n1,.int .i64 n2,.int .i64 n3,.string n4] 46 (0,0)));have hS9:=HSS.out _ SA.bel SA.c0;refine hK.out _ _ hS9 (fun _=>?_);clear hK;refine wY (rs:=[1]) (fuel:=3) (by kernel_rfl) (by simp) ?_;refine rC rfl (fun K hK=>?_) rN;go_simp
        refine hK.out _ _ hS9 (fun _=>?_);clear hK;refine wY (rs:=[18]) (fuel:=2) (by kernel_rfl) (by simp) ?_;refine rC rfl (fun K hK=>?_) rN;refine zsL _ rfl _ _ 23 rfl w4.heap.size 46 j0 (.agg #[.string ⟨#[]⟩,.int .i64 0,.int .i64 0,.int .i64 0,.string ⟨#[]⟩]) 5 56 U23 gi gz0 gz1 gz2 rfl (by decide) _ _ _ rfl (S2.o2.alloc _) ⟨t8.heap.size,0,none⟩ 1 1 [.string n0,.int .i64 n1,.int .i64 n2,.int .i64 n3,.string n4] rfl rfl (ZdR _ _ _ _ _ _ _) (one5 _ _ _ _ _) (by decide) (by unfold maxLen;omega) (by omega) (by simp;omega) _ rfl ?_;intro g7 cp7 t7 hown7 hgrow7 hat7 hlt7;obtain ⟨⟨q1,q2⟩,S4⟩:=S2.put2 hgrow7 hown7 hat7;have hM7:=S2.mid2 hgrow7;have hS7:=HSS.out _ hM7.2 hM7.1;clear hgrow7 hown7 hat7 hlt7 hM7;refine hK.out _ _ hS7 (fun _=>?_);clear hK;refine wY (rs:=[19]) (fuel:=1) (by kernel_rfl) (by simp) ?_;refine rC rfl (fun K hK=>?_) rN;go_simp
        refine hK.out _ _ hS7 (fun _=>?_);clear hK;refine wY (rs:=[20]) (fuel:=0) (by kernel_rfl) (by simp) ?_;refine rC rfl (fun K hK=>?_) rN;go_simp
        refine hK.out _ _ (HSS.out _ S4.bel S4.c0) (fun _=>?_);clear hK;refine ⟨by kernel_rfl,?_⟩;go_wp2_with fail
        go_roundw
        case rel=>exact ⟨m+1,_,by omega,by go_num,by rw [HN];exact S4⟩
        case measure=>simp [intOf];omega
    ·obtain rfl:m=k:=by omega
     have e2:decide ((m:Int)<(m:Int))=false:=by simp
     have ne9:=S1.ne;have cc0:=S1.c0;have cc1:=S1.c1;have hC2:=S1.hb;obtain ⟨Bz,Oz1,Oz2,Rz0,Rz1⟩:=Zbb F4.b S1.o1 S1.o2 hzF F4.r0 F4.r1;have hfin:=hQ1.out _ _ _ Oz1 Oz2 ne9 Bz;obtain ⟨p2,q2,rfl,_⟩:=Zk S1.o2;clear S1 hQ1 Oz1 Oz2 Bz;go_wp2_with fail
     generalize (wr.setCell ⟨w.heap.size+1,0,none⟩ (.slice (some ⟨g2,0,none⟩) (D+1) cp2)).setCell ⟨w.heap.size+1,1,none⟩ (.slice p2 m q2)=wz at *;exact bodyPost_ret (v:=.tuple #[.agg #[.slice (some ⟨g2,0,none⟩) (D+1) cp2,.slice p2 m q2],.int .i64 0]) (by simp [results,Tryz.results28,go_sem,Rz0,Rz1]) rfl hfin
theorem ZfC (ad af:Option Addr) (cd cf:Nat) (a:Ar.A) (size:Int) (w:World) (h:ArV w ad af a) (hs:SaneA a) :
 Calls Tryz.prog 28 #[av ad cd af cf a,.int .i64 size] w fun e w'=>ArSaid w (Ar.retA a size) (Ar.retE a size) e w':=by
 by_cases hE:Ar.retE a size=0
 ·rw [Ar.ZiR hE,hE];exact ZhO ad af cd cf a size w h hs hE
 ·have e:Ar.retA a size=Ar.az:=by unfold Ar.retA;rw [if_neg hE]
  rw [e];by_cases hc:Ar.chk a=0
  ·by_cases hz:0<=size/\size<=256
   ·have h4:a.dicts.length=4:=by
     rcases Nat.lt_or_ge a.dicts.length 4 with h9 | h9
     ·exfalso;apply hE;unfold Ar.retE;rw [if_neg (fun h8=>h8 hc),if_pos hz,if_neg (by omega)]
     ·obtain ⟨m1,_,_⟩:=Ar.Zw.1 (Ar.Zd.1 hc).1;omega
    have e2:Ar.retE a size=2:=by unfold Ar.retE;rw [if_neg (fun h8=>h8 hc),if_pos hz,if_pos h4]
    rw [e2];exact Zfh ad af cd cf a size w h hs hc hz h4
   ·have e2:Ar.retE a size=3:=by unfold Ar.retE;rw [if_neg (fun h8=>h8 hc),if_neg hz]
    rw [e2];exact Zfe ad af cd cf a size w h hs hc hz
  ·have e2:Ar.retE a size=Ar.chk a:=by unfold Ar.retE;rw [if_pos hc]
   rw [e2];exact Zgk ad af cd cf a size w h hs hc
theorem Zgw (ad af:Option Addr) (cd cf:Nat) (a:Ar.A) (w:World) (h:ArV w ad af a) (hs:SaneA a) (hc:Ar.chk a ≠ 0) :
 Calls Tryz.prog 29 #[av ad cd af cf a] w fun e w'=>ArSaid w Ar.az (Ar.chk a) e w':=by
 have C1:Hid (∀ w',Below w.heap.size w w'->Calls Tryz.prog 19 #[av ad cd af cf a] w' fun e w2=>e=.returned (.int .i64 (Ar.chk a))/\Below w'.heap.size w' w2):=fun w' h9=>Zs ad af cd cf a w' (h.below h9) hs
 have hQ:Hid (∀ w',Below w.heap.size w w'->ArSaid w Ar.az (Ar.chk a) (.returned (.tuple #[.agg #[.slice none 0 0,.slice none 0 0],.int .i64 (Ar.chk a)])) w'):=fun w' h9=>Zy h9
 generalize ArSaid w Ar.az (Ar.chk a)=Q at *;unfold av at C1 |-
 generalize Ar.chk a=E at *;have e1:(E != 0)=true:=by simpa using hc
 have e2:(E == 0)=false:=by simpa using hc
 generalize a.dicts.length=D at *;generalize a.files.length=N at *;clear h hs hc;go_enter Tryz.func29,Tryz.ntmps29
 go_wp2_with fail
 refine (C1.out _ (Fr.start w _ _).b).mono ?_;rintro e w1 ⟨rfl,G1⟩;have F1:=(Fr.start w _ _).next G1;clear G1;obtain ⟨b,a0,a1,r0,r1,z0,z1,hz⟩:=id F1;go_wp2_with fail
 rw [F1.zero];exact bodyPost_ret (v:=.tuple #[.agg #[.slice none 0 0,.slice none 0 0],.int .i64 E]) (by simp [results,Tryz.results29,go_sem,F1.r0,F1.r1]) rfl (hQ.out _ F1.b)
theorem ZgL (ad af:Option Addr) (cd cf:Nat) (a:Ar.A) (w:World) (h:ArV w ad af a) (hs:SaneA a) (hc:Ar.chk a=0) :
 Calls Tryz.prog 29 #[av ad cd af cf a] w fun e w'=>ArSaid w ⟨Ar.cpD a a.dicts.length,a.files.map (Ar.cpF a a.dicts.length)⟩ 0 e w':=by
 obtain ⟨i0,hi,hz0,hz1,hz2⟩:=info_parts (P:=Tryz.prog) (e:=9) (z:=.string ⟨#[]⟩) (size:=1) (bytes:=16) (by kernel_rfl);obtain ⟨j0,gi,gz0,gz1,gz2⟩:=info_parts (P:=Tryz.prog) (e:=46) (z:=.agg #[.string ⟨#[]⟩,.int .i64 0,.int .i64 0,.int .i64 0,.string ⟨#[]⟩]) (size:=5) (bytes:=56) (by kernel_rfl);obtain ⟨m1,m2,m3⟩:=Ar.Zw.1 (Ar.Zd.1 hc).1;have C1:Hid (∀ w',Below w.heap.size w w'->Calls Tryz.prog 19 #[av ad cd af cf a] w' fun e w2=>e=.returned (.int .i64 (Ar.chk a))/\Below w'.heap.size w' w2):=fun w' h9=>Zs ad af cd cf a w' (h.below h9) hs
 have HX:Hid (∀ w',Below w.heap.size w w'->∀ k,k<a.dicts.length->∃ b off,ad=some ⟨b,off,none⟩/\b<w'.heap.size/\w'.cell? ⟨b,off+k,none⟩=some (.string (Tr.xa a.dicts k))):=fun w' hb k hk=>(h.ds.below hb).at hk
 have HFl:Hid (∀ w',Below w.heap.size w w'->∀ k,k<a.files.length->∃ b off,af=some ⟨b,off,none⟩/\b<w'.heap.size/\w'.cell? ⟨b,off+k*5+1,none⟩=some (.int .i64 (Ar.fa a.files k).dict)):=fun w' h9 k hk=>by
  obtain ⟨b,off,h1,h2,h3⟩:=(h.fs.below h9).at hk;exact ⟨b,off,h1,h2,h3.c1⟩
 have HFn:Hid (∀ w',Below w.heap.size w w'->(a.files.length=0\/∃ b,af=some b/\∀ j u,(fcs a.files)[j]?=some u->w'.cell? (b.add j)=some u)):=fun w' h9=>(h.fs.below h9).news
 have HF1:Hid ((fcs a.files).length=a.files.length*5):=Zah _;have HF2:Hid (∀ u ∈ fcs a.files,u.oneCell'=true):=ZeY _;rw [hc] at C1;unfold av at C1 |-
 obtain ⟨D,hD⟩:∃ D,a.dicts.length=D:=⟨_,rfl⟩
 obtain ⟨N,hN⟩:∃ N,a.files.length=N:=⟨_,rfl⟩
 have HNN:Hid (a.files.length=N):=hN;rw [hD] at C1 HX m1 |-
 rw [hN] at C1 HFl HFn HF1 m2 |-
 have hQ:Hid (∀ v1 v2 w',w'.ownsRow w.heap.size 9 1 v1 (Ar.cpD a D).length ((Ar.cpD a D).map Value.string)->w'.ownsRow w.heap.size 46 5 v2 N (fcs (a.files.map (Ar.cpF a D)))->(∀ j,v1.ownBlock=some j->v2.ownBlock ≠ some j)->Below w.heap.size w w'->ArSaid w ⟨Ar.cpD a D,a.files.map (Ar.cpF a D)⟩ 0 (.returned (.tuple #[.agg #[v1,v2],.int .i64 0])) w'):=fun v1 v2 w' k1 k2 k3 k4=>⟨v1,v2,rfl,⟨k1,by show w'.ownsRow _ _ _ _ (a.files.map (Ar.cpF a D)).length _;rw [List.length_map,hN];exact k2,k3⟩,k4⟩
 generalize ArSaid w ⟨Ar.cpD a D,a.files.map (Ar.cpF a D)⟩ 0=Q at *;have HI0:Hid (∀ k,fcs (a.files.map (Ar.cpF a k))=fcs (Ar.cpI a k 0)):=fun k=>by rw [Ar.Zke]
 have HIN:Hid (∀ k,fcs (Ar.cpI a k N)=fcs (a.files.map (Ar.cpF a (k+1)))):=fun k=>by rw [<-hN,Ar.Zmg]
 have H0:Hid (fcs (a.files.map (Ar.cpF a 0))=fcs a.files):=by show _=_;rw [ZqQ]
 clear h hs hc m3 hD hN;have hDi:(D:Int)<=4:=by omega
 have hNi:(N:Int)<=12:=by omega
 generalize hFS:fcs a.files=FS at *;clear hFS;go_enter Tryz.func29,Tryz.ntmps29
 go_wp2_with fail
 refine (C1.out _ (Fr.start w _ _).b).mono ?_;rintro e w3 ⟨rfl,G1⟩;have F1:=(Fr.start w _ _).next G1;clear G1 C1;obtain ⟨b,a0,a1,r0,r1,z0,z1,hz⟩:=id F1;have hz9:w.heap.size<w3.heap.size:=by omega
 have O0:=ZcO w3 w3.heap.size 46 5 (nl _);have hD2:=HFn.out _ (F1.b.alloc (by have:=F1.b.size;omega) (.cells #[] 46 (0,0)));have hds1:=HF1.out;have hds2:=HF2.out
 go_wp2_with (first
  | (at_builtin;refine Zac rfl _ _ 23 rfl w3.heap.size 46 j0 (.agg #[.string ⟨#[]⟩,.int .i64 0,.int .i64 0,.int .i64 0,.string ⟨#[]⟩]) 5 56 U23 gi gz0 gz1 gz2 rfl (by decide) w3.heap.size 0 0 [] rfl O0 af N cf FS rfl hds1 hD2 hds2 (by unfold maxLen;omega) (by omega) (by simp) _ rfl ?_;intro g2 cp2 w5 hown5 hgrow5 hat5)
  | fail)
 have BX:Below w3.heap.size w3 w5:=((bR _ _).alloc (nl _) _).grown hgrow5 (by simp) (fun j hj=>by simp at hj;omega);simp only [Nat.zero_add,List.nil_append] at hown5 |-
 have S0:=CpS.new2 BX BX.size hown5;clear O0 hD2 hds1 hds2 hgrow5 hat5 hown5 HFn HF1 HF2 BX a0 a1 r0 r1 z0 z1 b;generalize (w5.alloc (.cells #[.slice none 0 0,.slice (some ⟨g2,0,none⟩) N cp2] 25 (0,0)))=w6 at *;generalize w5.heap.size=C at *;go_loopw [6] (fun i wr=>∃ (k:Nat) (v1:Value),k<=D/\i=.int .i64 ((k:Int)+1)/\CpS w3 wr C w3.heap.size v1 (.slice (some ⟨g2,0,none⟩) N cp2) (Ar.cpD a k).length N ((Ar.cpD a k).map Value.string) (fcs (a.files.map (Ar.cpF a k)))) (fun i _=>D+1 - (intOf i).toNat)
 case atStart=>exact ⟨0,_,by omega,rfl,by rw [H0.out];exact S0⟩
 case round =>
  clear S0;obtain ⟨k,v1,hk2,rfl,S1⟩:=hrel;have F7:=F1.keep S1.bel hz;obtain ⟨B7,a0,a1,r0,r1,z0,z1,hz7⟩:=id F7;by_cases hlt:k<D
  ·have d1:decide ((k:Int)+1<=(D:Int))=true:=zdT (by omega);have hki:(k:Int)+1<=(D:Int):=by omega
   have hkD:(k:Int)<(D:Int):=by omega
   have hwk2:IntKind.i64.wrap (k:Int)=(k:Int):=IntWalk.i64_in _ ⟨by omega,by omega⟩;have hwk:IntKind.i64.wrap ((k:Int)+1 - 1)=(k:Int):=by rw [show (k:Int)+1 - 1=(k:Int) by omega];exact IntWalk.i64_in _ ⟨by omega,by omega⟩
   obtain ⟨b9,off,rfl,hbl,hc⟩:=HX.out wr B7 k hlt;generalize hX:Tr.xa a.dicts k=X at *;have HXX:Hid (Tr.xa a.dicts k=X):=hX;clear hX;have HAk:Hid (∀ m,Ar.anyK a.files ((k:Int)+1) (m+1)=(Ar.anyK a.files ((k:Int)+1) m || decide ((Ar.fa a.files m).dict=(k:Int)+1))):=fun m=>rfl
   have HA0:Hid (Ar.anyK a.files ((k:Int)+1) 0=false):=rfl;have HAN:Hid (Ar.anyK a.files ((k:Int)+1) N=Ar.used a ((k+1:Nat):Int)):=by show _=_;rw [<-HNN.out];exact ZnT
   generalize Ar.anyK a.files ((k:Int)+1)=ak at *;go_wp2_with fail
   generalize hwr:wr=wk at *;clear hwr;go_loopw [7,8] (fun u i w'=>∃ m:Nat,m<=N/\u=.bool (ak m)/\i=.int .i64 m/\w'=wk) (fun _ i _=>N - (intOf i).toNat)
   case atStart=>exact ⟨0,by omega,by rw [HA0.out],rfl,rfl⟩
   case round =>
    obtain ⟨m,hm2,rfl,rfl,hwr⟩:=hrel;have hwr:=hwr.symm;subst hwr;by_cases hlm:m<N
    ·have d2:decide ((m:Int)<(N:Int))=true:=zdT (by omega);have d2':decide (m<N)=true:=zdT hlm;have hmi:(m:Int)<(N:Int):=by omega
     obtain ⟨bf,of,rfl,hbf,c1⟩:=HFl.out _ B7 m hlm;have HAm:=Zak (HAk.out m);generalize (Ar.fa a.files m).dict=f1 at *
     cases hu:ak m with
     | true =>
      have HN:Hid (ak (m+1)=true):=by show _=_;rw [HAm.out,hu];rfl
      clear hu HAm;go_wp2_with fail
      go_roundw
      case rel=>exact ⟨m+1,by omega,by rw [HN.out],by go_num,by trivial⟩
      case measure=>simp [intOf];omega
     | false =>
      by_cases hdx:f1=(k:Int)+1
      ·have HN:Hid (ak (m+1)=true):=by show _=_;rw [HAm.out,hu,decide_eq_true hdx];rfl
       subst hdx;clear hu HAm;go_wp2_with fail
       go_roundw
       case rel=>exact ⟨m+1,by omega,by rw [HN.out],by go_num,by trivial⟩
       case measure=>simp [intOf];omega
      ·have HN:Hid (ak (m+1)=false):=by show _=_;rw [HAm.out,hu,decide_eq_false hdx];rfl
       have e1:(f1 == ((k:Int)+1))=false:=by simpa using hdx
       clear hu HAm;go_wp2_with fail
       go_roundw
       case rel=>exact ⟨m+1,by omega,by rw [HN.out],by go_num,by trivial⟩
       case measure=>simp [intOf];omega
    ·obtain rfl:m=N:=by omega
     have d2:decide ((m:Int)<(m:Int))=false:=by simp
     have hak:=HAN.out;rw [hak];clear hak HAk HA0 HAN
     cases hu:Ar.used a ((k+1:Nat):Int) with
     | false =>
      obtain ⟨e1,e2⟩:=Ar.Zmv hu;have HE1:Hid (Ar.cpD a (k+1)=Ar.cpD a k):=e1;have HE2:Hid (a.files.map (Ar.cpF a (k+1))=a.files.map (Ar.cpF a k)):=e2;clear e1 e2 hu;go_wp2_with fail
      go_roundw
      case rel=>exact ⟨k+1,v1,by omega,by go_num,by rw [HE1.out,HE2.out];exact S1⟩
      case measure=>simp [intOf];omega
     | true =>
      have HE1:Hid (Ar.cpD a (k+1)=Ar.cpD a k++[X]):=by show _=_;rw [Ar.ZnN hu,HXX.out]
      clear hu
      obtain ⟨L,hL⟩:∃ L,(Ar.cpD a k).length=L:=⟨_,rfl⟩
      have hL4:L<=4:=by
       have e1:=Ar.Zcn a k;have e2:=Ar.ZjW a k;omega
      have HL1:Hid ((Ar.cpD a (k+1)).length=L+1):=by show _=_;rw [HE1.out,List.length_append,hL];rfl
      have HM1:Hid ((Ar.cpD a (k+1)).map Value.string=(Ar.cpD a k).map Value.string++[.string X]):=by show _=_;rw [HE1.out,List.map_append];rfl
      have HY:Hid (∀ q,q<m->(Ar.fa a.files q).dict=(k:Int)+1->fcs (Ar.cpI a k (q+1))=fcs ((Ar.cpI a k q).take q++{ Ar.fa (Ar.cpI a k q) q with dict:=(L:Int)+1 } :: (Ar.cpI a k q).drop (q+1))):=fun q h1 h2=>by
       have e:((Ar.rkK a (k+1):Nat):Int)=(L:Int)+1:=by rw [<-Ar.Zcn,HL1.out];rfl
       rw [Ar.ZnK (by rw [HNN.out];exact h1) h2,e]
      have HNo:Hid (∀ q,q<m->(Ar.fa a.files q).dict ≠ (k:Int)+1->fcs (Ar.cpI a k (q+1))=fcs (Ar.cpI a k q)):=fun q h1 h2=>by rw [Ar.Zre (by rw [HNN.out];exact h1) h2]
      have HIl:Hid (∀ q,q<m->(Ar.cpI a k q).length=m):=fun q h1=>by rw [Ar.Znk (by rw [HNN.out];omega),HNN.out]
      have HINk:Hid (fcs (Ar.cpI a k m)=fcs (a.files.map (Ar.cpF a (k+1)))):=HIN.out k;rw [hL,HI0.out] at S1;clear hL HE1 HXX;have c0S:=S1.c0;have f0S:=S1.f0;have hbC:=S1.hb;have hlC:=S1.hC;have hLi:(L:Int)<=4:=by omega
      generalize (Ar.cpD a k).map Value.string=XS at *;obtain ⟨p1,q1,rfl,_⟩:=Zk S1.o1;have S9:=S1.below ((bR _ _).drew);go_wp2_with fail
      go_region_law (first
       | (refine zsL _ rfl _ _ 22 rfl w3.heap.size 9 i0 (.string ⟨#[]⟩) 1 16 U22 hi hz0 hz1 hz2 rfl (by decide) _ _ _ rfl (S9.o1.alloc _) ⟨wk.drew.heap.size,0,none⟩ 1 1 [.string X] rfl rfl (cell_one_new _ _ _) (by simp [Value.oneCell']) (by decide) (by unfold maxLen;omega) (by omega) (by simp;omega) _ rfl ?_;intro g cp t5 hown5 hgrow5 hat5 hlt5;obtain ⟨⟨⟨qq1,qq2⟩,S5⟩,_⟩:=S9.put1 hgrow5 hown5 hat5;clear hgrow5 hown5 hat5 hlt5))
      all_goals
       clear S1 S9 c0S f0S hbC hlC qq1 qq2 a0 a1 r0 r1 z0 z1 F7 hz7 hc hbl B7;generalize (t5.setCell ⟨C,0,none⟩ (.slice (some ⟨g,0,none⟩) (L+1) cp))=wq at *;have Fq:=F1.keep S5.bel hz;have a1:=Fq.a1;clear Fq;go_wp2_with fail
       clear a1;go_loopw [9] (fun i w'=>∃ q:Nat,q<=m/\i=.int .i64 q/\CpS w3 w' C w3.heap.size (.slice (some ⟨g,0,none⟩) (L+1) cp) (.slice (some ⟨g2,0,none⟩) m cp2) (L+1) m (XS++[.string X]) (fcs (Ar.cpI a k q))) (fun i _=>m - (intOf i).toNat)
       case atStart=>exact ⟨0,by omega,rfl,S5⟩
       case round =>
        clear S5;obtain ⟨q,hq2,rfl,S6⟩:=hrel;have F8:=F1.keep S6.bel hz;obtain ⟨B8,a0,a1,r0,r1,z0,z1,hz8⟩:=id F8;by_cases hlq:q<m
        ·have d3:decide ((q:Int)<(m:Int))=true:=zdT (by omega);have d3':decide (q<m)=true:=zdT hlq;have hqi:(q:Int)<(m:Int):=by omega
         obtain ⟨bf,of,rfl,hbf,c1⟩:=HFl.out _ B8 q hlq;have hIl:=HIl.out q hlq;by_cases hd:(Ar.fa a.files q).dict=(k:Int)+1
         ·have HE:=Zak (HY.out q hlq hd);rw [<-hIl] at S6;obtain ⟨S8,t1,t2⟩:=CpS.set1 ((L:Int)+1) S6 (i:=q) (by omega);have c0:=S6.c0;have c1':=S6.c1;rw [hIl] at c1' S8;have e1:((Ar.fa a.files q).dict == ((k:Int)+1))=true:=by simpa using hd
          generalize (Ar.fa a.files q).dict=f1 at *;subst hd;clear S6 hIl;go_wp2_with fail
          go_roundw
          case rel=>exact ⟨q+1,by omega,by go_num,by rw [HE.out];exact S8⟩
          case measure=>simp [intOf];omega
         ·have HE:=Zak (HNo.out q hlq hd);have e1:((Ar.fa a.files q).dict == ((k:Int)+1))=false:=by simpa using hd
          generalize (Ar.fa a.files q).dict=f1 at *;clear hIl;go_wp2_with fail
          go_roundw
          case rel=>exact ⟨q+1,by omega,by go_num,by rw [HE.out];exact S6⟩
          case measure=>simp [intOf];omega
        ·obtain rfl:q=m:=by omega
         have d3:decide ((q:Int)<(q:Int))=false:=by simp
         rw [HINk.out,<-HM1.out,<-HL1.out] at S6;go_wp2_with fail
         go_roundw
         case rel=>exact ⟨k+1,_,by omega,by go_num,S6⟩
         case measure=>simp [intOf];omega
  ·obtain rfl:k=D:=by omega
   have d1:decide ((k:Int)+1<=(k:Int))=false:=dF (by omega);obtain ⟨Bz,Oz1,Oz2,Rz0,Rz1⟩:=Zbb F7.b S1.o1 S1.o2 hz F7.r0 F7.r1;have hfin:=hQ.out _ _ _ Oz1 Oz2 S1.ne Bz;obtain ⟨pp,qq,rfl,_⟩:=Zk S1.o1;have c0:=S1.c0;have c1:=S1.c1;have hC2:=S1.hb;clear S1 Oz1 Oz2 Bz hQ;go_wp2_with fail
   generalize (wr.setCell ⟨w.heap.size+1,0,none⟩ (.slice pp (Ar.cpD a k).length qq)).setCell ⟨w.heap.size+1,1,none⟩ (.slice (some ⟨g2,0,none⟩) N cp2)=wz at *;exact bodyPost_ret (v:=.tuple #[.agg #[.slice pp (Ar.cpD a k).length qq,.slice (some ⟨g2,0,none⟩) N cp2],.int .i64 0]) (by simp [results,Tryz.results29,go_sem,Rz0,Rz1]) rfl hfin
theorem Zgj (ad af:Option Addr) (cd cf:Nat) (a:Ar.A) (w:World) (h:ArV w ad af a) (hs:SaneA a) :
 Calls Tryz.prog 29 #[av ad cd af cf a] w fun e w'=>ArSaid w (Ar.cmpA a) (Ar.chk a) e w':=by
 by_cases hc:Ar.chk a=0
 ·rw [Ar.Znc hc,hc];exact ZgL ad af cd cf a w h hs hc
 ·have e:Ar.cmpA a=Ar.az:=by unfold Ar.cmpA;rw [if_neg hc]
  rw [e];exact Zgw ad af cd cf a w h hs hc
theorem ZaB (w:World) (x y:Value) (o:Obj):Below w.heap.size w (((w.alloc (.cells #[x,y] 25 (0,0))).alloc o).alloc (.cells #[.slice none 0 0,.slice none 0 0] 25 (0,0)))/\Bx (((w.alloc (.cells #[x,y] 25 (0,0))).alloc o).alloc (.cells #[.slice none 0 0,.slice none 0 0] 25 (0,0))) (w.heap.size+2) (.slice none 0 0) (.slice none 0 0)/\Bx (((w.alloc (.cells #[x,y] 25 (0,0))).alloc o).alloc (.cells #[.slice none 0 0,.slice none 0 0] 25 (0,0))) w.heap.size x y:=by
 have B1:=Za w (.cells #[x,y] 25 (0,0));have B2:=Za (w.alloc (.cells #[x,y] 25 (0,0))) o;have B3:=Za ((w.alloc (.cells #[x,y] 25 (0,0))).alloc o) (.cells #[.slice none 0 0,.slice none 0 0] 25 (0,0));have X:=Bx.new ((w.alloc (.cells #[x,y] 25 (0,0))).alloc o) (.slice none 0 0) (.slice none 0 0);rw [show ((w.alloc (.cells #[x,y] 25 (0,0))).alloc o).heap.size=w.heap.size+2 by simp] at X;exact ⟨bch (bch B1 B2 (nl _)) B3 (nl _),X,((Bx.new w x y).next B2).next B3⟩
theorem Zsr (ad af:Option Addr) (cd cf D N:Nat) (A:Ar.A) (E n:Int) (name text:ByteArray) (w:World)
 (C:Hid (∀ w',Below w.heap.size w w'->Calls Tryz.prog 13 #[.agg #[.slice ad D cd,.slice af N cf],.string name,.string text,.int .i64 n] w' fun e w2=>ArSaid w' A E e w2)) :
 Calls Tryz.prog 36 #[.agg #[.slice ad D cd,.slice af N cf],.agg #[.int .i64 1,.int .i64 n,.string name,.string text]] w fun e w'=>ArSaid w A E e w':=by
 obtain ⟨B0,R0,_⟩:=ZaB w (.slice ad D cd) (.slice af N cf) (.cells #[.int .i64 1,.int .i64 n,.string name,.string text] 54 (0,0));go_enter Tryz.func36,Tryz.ntmps36
 go_wp2_with fail
 generalize (((w.alloc (.cells #[.slice ad D cd,.slice af N cf] 25 (0,0))).alloc (.cells #[.int .i64 1,.int .i64 n,.string name,.string text] 54 (0,0))).alloc (.cells #[.slice none 0 0,.slice none 0 0] 25 (0,0)))=w0 at *;refine (C.out _ B0).mono ?_;intro e w1 h1;obtain ⟨p,q,p',q',rfl,O,G⟩:=h1.own;have R1:=R0.next G;have B1:=bch B0 G (nl _)
 have hfin:ArSaid w A E (.returned (.tuple #[.agg #[.slice p A.dicts.length q,.slice p' A.files.length q'],.int .i64 E])) _:=⟨_,_,rfl,(O.set2 (b:=w.heap.size+2) R0.lt (.slice p A.dicts.length q) (.slice p' A.files.length q')).low B0.size,Zp B1 (b:=w.heap.size+2) (by omega) (.slice p A.dicts.length q) (.slice p' A.files.length q')⟩
 clear R0 B0 C h1;generalize A.dicts.length=D2 at *;generalize A.files.length=N2 at *;have x0:=R1.c0;have x1:=R1.c1;have f0:=R1.f0;have f1:=R1.f1;have X5:=R1.set (u:=.slice p D2 q) (v:=.slice p' N2 q');clear R1 B1 G O;go_wp2_with fail
 clear x0 x1 f0 f1;have y0:=X5.c0;have y1:=X5.c1;generalize ((w1.setCell ⟨w.heap.size+2,0,none⟩ (.slice p D2 q)).setCell ⟨w.heap.size+2,1,none⟩ (.slice p' N2 q'))=wz at *;exact bodyPost_ret (v:=.tuple #[.agg #[.slice p D2 q,.slice p' N2 q'],.int .i64 E]) (by simp [results,Tryz.results36,go_sem,y0,y1]) rfl hfin
theorem Zsd (ad af:Option Addr) (cd cf D N:Nat) (A:Ar.A) (E n:Int) (name text:ByteArray) (w:World)
 (C:Hid (∀ w',Below w.heap.size w w'->Calls Tryz.prog 14 #[.agg #[.slice ad D cd,.slice af N cf],.string name] w' fun e w2=>ArSaid w' A E e w2)) :
 Calls Tryz.prog 36 #[.agg #[.slice ad D cd,.slice af N cf],.agg #[.int .i64 2,.int .i64 n,.string name,.string text]] w fun e w'=>ArSaid w A E e w':=by
 obtain ⟨B0,R0,_⟩:=ZaB w (.slice ad D cd) (.slice af N cf) (.cells #[.int .i64 2,.int .i64 n,.string name,.string text] 54 (0,0));go_enter Tryz.func36,Tryz.ntmps36
 go_wp2_with fail
 generalize (((w.alloc (.cells #[.slice ad D cd,.slice af N cf] 25 (0,0))).alloc (.cells #[.int .i64 2,.int .i64 n,.string name,.string text] 54 (0,0))).alloc (.cells #[.slice none 0 0,.slice none 0 0] 25 (0,0)))=w0 at *;refine (C.out _ B0).mono ?_;intro e w1 h1;obtain ⟨p,q,p',q',rfl,O,G⟩:=h1.own;have R1:=R0.next G;have B1:=bch B0 G (nl _)
 have hfin:ArSaid w A E (.returned (.tuple #[.agg #[.slice p A.dicts.length q,.slice p' A.files.length q'],.int .i64 E])) _:=⟨_,_,rfl,(O.set2 (b:=w.heap.size+2) R0.lt (.slice p A.dicts.length q) (.slice p' A.files.length q')).low B0.size,Zp B1 (b:=w.heap.size+2) (by omega) (.slice p A.dicts.length q) (.slice p' A.files.length q')⟩
 clear R0 B0 C h1;generalize A.dicts.length=D2 at *;generalize A.files.length=N2 at *;have x0:=R1.c0;have x1:=R1.c1;have f0:=R1.f0;have f1:=R1.f1;have X5:=R1.set (u:=.slice p D2 q) (v:=.slice p' N2 q');clear R1 B1 G O;go_wp2_with fail
 clear x0 x1 f0 f1;have y0:=X5.c0;have y1:=X5.c1;generalize ((w1.setCell ⟨w.heap.size+2,0,none⟩ (.slice p D2 q)).setCell ⟨w.heap.size+2,1,none⟩ (.slice p' N2 q'))=wz at *;exact bodyPost_ret (v:=.tuple #[.agg #[.slice p D2 q,.slice p' N2 q'],.int .i64 E]) (by simp [results,Tryz.results36,go_sem,y0,y1]) rfl hfin
theorem Zsy (ad af:Option Addr) (cd cf D N:Nat) (A:Ar.A) (E n:Int) (name text:ByteArray) (w:World)
 (C:Hid (∀ w',Below w.heap.size w w'->Calls Tryz.prog 25 #[.agg #[.slice ad D cd,.slice af N cf],.int .i64 n] w' fun e w2=>ArSaid w' A E e w2)) :
 Calls Tryz.prog 36 #[.agg #[.slice ad D cd,.slice af N cf],.agg #[.int .i64 3,.int .i64 n,.string name,.string text]] w fun e w'=>ArSaid w A E e w':=by
 obtain ⟨B0,R0,_⟩:=ZaB w (.slice ad D cd) (.slice af N cf) (.cells #[.int .i64 3,.int .i64 n,.string name,.string text] 54 (0,0));go_enter Tryz.func36,Tryz.ntmps36
 go_wp2_with fail
 generalize (((w.alloc (.cells #[.slice ad D cd,.slice af N cf] 25 (0,0))).alloc (.cells #[.int .i64 3,.int .i64 n,.string name,.string text] 54 (0,0))).alloc (.cells #[.slice none 0 0,.slice none 0 0] 25 (0,0)))=w0 at *;refine (C.out _ B0).mono ?_;intro e w1 h1;obtain ⟨p,q,p',q',rfl,O,G⟩:=h1.own;have R1:=R0.next G;have B1:=bch B0 G (nl _)
 have hfin:ArSaid w A E (.returned (.tuple #[.agg #[.slice p A.dicts.length q,.slice p' A.files.length q'],.int .i64 E])) _:=⟨_,_,rfl,(O.set2 (b:=w.heap.size+2) R0.lt (.slice p A.dicts.length q) (.slice p' A.files.length q')).low B0.size,Zp B1 (b:=w.heap.size+2) (by omega) (.slice p A.dicts.length q) (.slice p' A.files.length q')⟩
 clear R0 B0 C h1;generalize A.dicts.length=D2 at *;generalize A.files.length=N2 at *;have x0:=R1.c0;have x1:=R1.c1;have f0:=R1.f0;have f1:=R1.f1;have X5:=R1.set (u:=.slice p D2 q) (v:=.slice p' N2 q');clear R1 B1 G O;go_wp2_with fail
 clear x0 x1 f0 f1;have y0:=X5.c0;have y1:=X5.c1;generalize ((w1.setCell ⟨w.heap.size+2,0,none⟩ (.slice p D2 q)).setCell ⟨w.heap.size+2,1,none⟩ (.slice p' N2 q'))=wz at *;exact bodyPost_ret (v:=.tuple #[.agg #[.slice p D2 q,.slice p' N2 q'],.int .i64 E]) (by simp [results,Tryz.results36,go_sem,y0,y1]) rfl hfin
theorem Ztl (ad af:Option Addr) (cd cf D N:Nat) (A:Ar.A) (E n:Int) (name text:ByteArray) (w:World)
 (C:Hid (∀ w',Below w.heap.size w w'->Calls Tryz.prog 26 #[.agg #[.slice ad D cd,.slice af N cf]] w' fun e w2=>ArSaid w' A E e w2)) :
 Calls Tryz.prog 36 #[.agg #[.slice ad D cd,.slice af N cf],.agg #[.int .i64 4,.int .i64 n,.string name,.string text]] w fun e w'=>ArSaid w A E e w':=by
 obtain ⟨B0,R0,_⟩:=ZaB w (.slice ad D cd) (.slice af N cf) (.cells #[.int .i64 4,.int .i64 n,.string name,.string text] 54 (0,0));go_enter Tryz.func36,Tryz.ntmps36
 go_wp2_with fail
 generalize (((w.alloc (.cells #[.slice ad D cd,.slice af N cf] 25 (0,0))).alloc (.cells #[.int .i64 4,.int .i64 n,.string name,.string text] 54 (0,0))).alloc (.cells #[.slice none 0 0,.slice none 0 0] 25 (0,0)))=w0 at *;refine (C.out _ B0).mono ?_;intro e w1 h1;obtain ⟨p,q,p',q',rfl,O,G⟩:=h1.own;have R1:=R0.next G;have B1:=bch B0 G (nl _)
 have hfin:ArSaid w A E (.returned (.tuple #[.agg #[.slice p A.dicts.length q,.slice p' A.files.length q'],.int .i64 E])) _:=⟨_,_,rfl,(O.set2 (b:=w.heap.size+2) R0.lt (.slice p A.dicts.length q) (.slice p' A.files.length q')).low B0.size,Zp B1 (b:=w.heap.size+2) (by omega) (.slice p A.dicts.length q) (.slice p' A.files.length q')⟩
 clear R0 B0 C h1;generalize A.dicts.length=D2 at *;generalize A.files.length=N2 at *;have x0:=R1.c0;have x1:=R1.c1;have f0:=R1.f0;have f1:=R1.f1;have X5:=R1.set (u:=.slice p D2 q) (v:=.slice p' N2 q');clear R1 B1 G O;go_wp2_with fail
 clear x0 x1 f0 f1;have y0:=X5.c0;have y1:=X5.c1;generalize ((w1.setCell ⟨w.heap.size+2,0,none⟩ (.slice p D2 q)).setCell ⟨w.heap.size+2,1,none⟩ (.slice p' N2 q'))=wz at *;exact bodyPost_ret (v:=.tuple #[.agg #[.slice p D2 q,.slice p' N2 q'],.int .i64 E]) (by simp [results,Tryz.results36,go_sem,y0,y1]) rfl hfin
theorem ZlT (ad af:Option Addr) (cd cf D N:Nat) (k n:Int) (name text:ByteArray) (w:World) (h1:k ≠ 1) (h2:k ≠ 2) (h3:k ≠ 3) (h4:k ≠ 4) :
 Calls Tryz.prog 36 #[.agg #[.slice ad D cd,.slice af N cf],.agg #[.int .i64 k,.int .i64 n,.string name,.string text]] w fun e w'=>ArSaid w Ar.az 6 e w':=by
 obtain ⟨B0,R0,_⟩:=ZaB w (.slice ad D cd) (.slice af N cf) (.cells #[.int .i64 k,.int .i64 n,.string name,.string text] 54 (0,0));have k1:(k == 1)=false:=by simpa using h1
 have k2:(k == 2)=false:=by simpa using h2
 have k3:(k == 3)=false:=by simpa using h3
 have k4:(k == 4)=false:=by simpa using h4
 have hfin:=Zy (E:=6) B0;clear R0 B0 h1 h2 h3 h4;go_enter Tryz.func36,Tryz.ntmps36
 go_wp2_with fail
 exact bodyPost_ret (v:=.tuple #[.agg #[.slice none 0 0,.slice none 0 0],.int .i64 6]) (by simp [results,Tryz.results36,go_sem]) rfl hfin
theorem Zez (ad af:Option Addr) (cd cf:Nat) (a:Ar.A) (x:Im.Act) (w:World) (h:ArV w ad af a) (hs:SaneA a) (hn:x.name.size<=140737488355328) (ht:x.text.size<=140737488355328) (hM:Mx w) :
 Calls Tryz.prog 36 #[av ad cd af cf a,xv x] w fun e w'=>ArSaid w (Im.doA a x) (Im.doE a x) e w':=by
 have C1:=Zsr ad af cd cf a.dicts.length a.files.length (Ar.putA a x.name x.text x.n) (Ar.putE a x.name x.text x.n) x.n x.name x.text w (fun w' h9=>Zie ad af cd cf a x.name x.text x.n w' (h.below h9) hs hn ht);have C2:=Zsd ad af cd cf a.dicts.length a.files.length (Ar.ZbB a x.name) (Ar.getE a x.name) x.n x.name x.text w (fun w' h9=>ZhE ad af cd cf a x.name w' (h.below h9) hs);have C3:=Zsy ad af cd cf a.dicts.length a.files.length (Ar.retA a x.n) (Ar.retE a x.n) x.n x.name x.text w (fun w' h9=>ZeV ad af cd cf a x.n w' (h.below h9) hs (hM.below h9));have C4:=Ztl ad af cd cf a.dicts.length a.files.length (Ar.cmpA a) (Ar.chk a) x.n x.name x.text w (fun w' h9=>ZeN ad af cd cf a w' (h.below h9) hs);unfold Im.doA Im.doE xv av;by_cases k1:x.kind=1
 ·rw [if_pos k1,if_pos k1,k1];exact C1
 by_cases k2:x.kind=2
 ·rw [if_neg k1,if_neg k1,if_pos k2,if_pos k2,k2];exact C2
 by_cases k3:x.kind=3
 ·rw [if_neg k1,if_neg k1,if_neg k2,if_neg k2,if_pos k3,if_pos k3,k3];exact C3
 by_cases k4:x.kind=4
 ·rw [if_neg k1,if_neg k1,if_neg k2,if_neg k2,if_neg k3,if_neg k3,if_pos k4,if_pos k4,k4];exact C4
 rw [if_neg k1,if_neg k1,if_neg k2,if_neg k2,if_neg k3,if_neg k3,if_neg k4,if_neg k4];exact ZlT ad af cd cf _ _ x.kind x.n x.name x.text w k1 k2 k3 k4
theorem ZtV (ad af:Option Addr) (cd cf D N:Nat) (A:Ar.A) (E n:Int) (name text:ByteArray) (w:World)
 (C:Hid (∀ w',Below w.heap.size w w'->Calls Tryz.prog 15 #[.agg #[.slice ad D cd,.slice af N cf],.string name,.string text,.int .i64 n] w' fun e w2=>ArSaid w' A E e w2)) :
 Calls Tryz.prog 37 #[.agg #[.slice ad D cd,.slice af N cf],.agg #[.int .i64 1,.int .i64 n,.string name,.string text]] w fun e w'=>ArSaid w A E e w':=by
 obtain ⟨B0,R0,_⟩:=ZaB w (.slice ad D cd) (.slice af N cf) (.cells #[.int .i64 1,.int .i64 n,.string name,.string text] 54 (0,0));go_enter Tryz.func37,Tryz.ntmps37
 go_wp2_with fail
 generalize (((w.alloc (.cells #[.slice ad D cd,.slice af N cf] 25 (0,0))).alloc (.cells #[.int .i64 1,.int .i64 n,.string name,.string text] 54 (0,0))).alloc (.cells #[.slice none 0 0,.slice none 0 0] 25 (0,0)))=w0 at *;refine (C.out _ B0).mono ?_;intro e w1 h1;obtain ⟨p,q,p',q',rfl,O,G⟩:=h1.own;have R1:=R0.next G;have B1:=bch B0 G (nl _)
 have hfin:ArSaid w A E (.returned (.tuple #[.agg #[.slice p A.dicts.length q,.slice p' A.files.length q'],.int .i64 E])) _:=⟨_,_,rfl,(O.set2 (b:=w.heap.size+2) R0.lt (.slice p A.dicts.length q) (.slice p' A.files.length q')).low B0.size,Zp B1 (b:=w.heap.size+2) (by omega) (.slice p A.dicts.length q) (.slice p' A.files.length q')⟩
 clear R0 B0 C h1;generalize A.dicts.length=D2 at *;generalize A.files.length=N2 at *;have x0:=R1.c0;have x1:=R1.c1;have f0:=R1.f0;have f1:=R1.f1;have X5:=R1.set (u:=.slice p D2 q) (v:=.slice p' N2 q');clear R1 B1 G O;go_wp2_with fail
 clear x0 x1 f0 f1;have y0:=X5.c0;have y1:=X5.c1;generalize ((w1.setCell ⟨w.heap.size+2,0,none⟩ (.slice p D2 q)).setCell ⟨w.heap.size+2,1,none⟩ (.slice p' N2 q'))=wz at *;exact bodyPost_ret (v:=.tuple #[.agg #[.slice p D2 q,.slice p' N2 q'],.int .i64 E]) (by simp [results,Tryz.results37,go_sem,y0,y1]) rfl hfin
theorem ZuX (ad af:Option Addr) (cd cf D N:Nat) (A:Ar.A) (E n:Int) (name text:ByteArray) (w:World)
 (C:Hid (∀ w',Below w.heap.size w w'->Calls Tryz.prog 16 #[.agg #[.slice ad D cd,.slice af N cf],.string name] w' fun e w2=>ArSaid w' A E e w2)) :
 Calls Tryz.prog 37 #[.agg #[.slice ad D cd,.slice af N cf],.agg #[.int .i64 2,.int .i64 n,.string name,.string text]] w fun e w'=>ArSaid w A E e w':=by
 obtain ⟨B0,R0,_⟩:=ZaB w (.slice ad D cd) (.slice af N cf) (.cells #[.int .i64 2,.int .i64 n,.string name,.string text] 54 (0,0));go_enter Tryz.func37,Tryz.ntmps37
 go_wp2_with fail
 generalize (((w.alloc (.cells #[.slice ad D cd,.slice af N cf] 25 (0,0))).alloc (.cells #[.int .i64 2,.int .i64 n,.string name,.string text] 54 (0,0))).alloc (.cells #[.slice none 0 0,.slice none 0 0] 25 (0,0)))=w0 at *;refine (C.out _ B0).mono ?_;intro e w1 h1;obtain ⟨p,q,p',q',rfl,O,G⟩:=h1.own;have R1:=R0.next G;have B1:=bch B0 G (nl _)
 have hfin:ArSaid w A E (.returned (.tuple #[.agg #[.slice p A.dicts.length q,.slice p' A.files.length q'],.int .i64 E])) _:=⟨_,_,rfl,(O.set2 (b:=w.heap.size+2) R0.lt (.slice p A.dicts.length q) (.slice p' A.files.length q')).low B0.size,Zp B1 (b:=w.heap.size+2) (by omega) (.slice p A.dicts.length q) (.slice p' A.files.length q')⟩
 clear R0 B0 C h1;generalize A.dicts.length=D2 at *;generalize A.files.length=N2 at *;have x0:=R1.c0;have x1:=R1.c1;have f0:=R1.f0;have f1:=R1.f1;have X5:=R1.set (u:=.slice p D2 q) (v:=.slice p' N2 q');clear R1 B1 G O;go_wp2_with fail
 clear x0 x1 f0 f1;have y0:=X5.c0;have y1:=X5.c1;generalize ((w1.setCell ⟨w.heap.size+2,0,none⟩ (.slice p D2 q)).setCell ⟨w.heap.size+2,1,none⟩ (.slice p' N2 q'))=wz at *;exact bodyPost_ret (v:=.tuple #[.agg #[.slice p D2 q,.slice p' N2 q'],.int .i64 E]) (by simp [results,Tryz.results37,go_sem,y0,y1]) rfl hfin
theorem Zus (ad af:Option Addr) (cd cf D N:Nat) (A:Ar.A) (E n:Int) (name text:ByteArray) (w:World)
 (C:Hid (∀ w',Below w.heap.size w w'->Calls Tryz.prog 28 #[.agg #[.slice ad D cd,.slice af N cf],.int .i64 n] w' fun e w2=>ArSaid w' A E e w2)) :
 Calls Tryz.prog 37 #[.agg #[.slice ad D cd,.slice af N cf],.agg #[.int .i64 3,.int .i64 n,.string name,.string text]] w fun e w'=>ArSaid w A E e w':=by
 obtain ⟨B0,R0,_⟩:=ZaB w (.slice ad D cd) (.slice af N cf) (.cells #[.int .i64 3,.int .i64 n,.string name,.string text] 54 (0,0));go_enter Tryz.func37,Tryz.ntmps37
 go_wp2_with fail
 generalize (((w.alloc (.cells #[.slice ad D cd,.slice af N cf] 25 (0,0))).alloc (.cells #[.int .i64 3,.int .i64 n,.string name,.string text] 54 (0,0))).alloc (.cells #[.slice none 0 0,.slice none 0 0] 25 (0,0)))=w0 at *;refine (C.out _ B0).mono ?_;intro e w1 h1;obtain ⟨p,q,p',q',rfl,O,G⟩:=h1.own;have R1:=R0.next G;have B1:=bch B0 G (nl _)
 have hfin:ArSaid w A E (.returned (.tuple #[.agg #[.slice p A.dicts.length q,.slice p' A.files.length q'],.int .i64 E])) _:=⟨_,_,rfl,(O.set2 (b:=w.heap.size+2) R0.lt (.slice p A.dicts.length q) (.slice p' A.files.length q')).low B0.size,Zp B1 (b:=w.heap.size+2) (by omega) (.slice p A.dicts.length q) (.slice p' A.files.length q')⟩
 clear R0 B0 C h1;generalize A.dicts.length=D2 at *;generalize A.files.length=N2 at *;have x0:=R1.c0;have x1:=R1.c1;have f0:=R1.f0;have f1:=R1.f1;have X5:=R1.set (u:=.slice p D2 q) (v:=.slice p' N2 q');clear R1 B1 G O;go_wp2_with fail
 clear x0 x1 f0 f1;have y0:=X5.c0;have y1:=X5.c1;generalize ((w1.setCell ⟨w.heap.size+2,0,none⟩ (.slice p D2 q)).setCell ⟨w.heap.size+2,1,none⟩ (.slice p' N2 q'))=wz at *;exact bodyPost_ret (v:=.tuple #[.agg #[.slice p D2 q,.slice p' N2 q'],.int .i64 E]) (by simp [results,Tryz.results37,go_sem,y0,y1]) rfl hfin
theorem Zuy (ad af:Option Addr) (cd cf D N:Nat) (A:Ar.A) (E n:Int) (name text:ByteArray) (w:World)
 (C:Hid (∀ w',Below w.heap.size w w'->Calls Tryz.prog 29 #[.agg #[.slice ad D cd,.slice af N cf]] w' fun e w2=>ArSaid w' A E e w2)) :
 Calls Tryz.prog 37 #[.agg #[.slice ad D cd,.slice af N cf],.agg #[.int .i64 4,.int .i64 n,.string name,.string text]] w fun e w'=>ArSaid w A E e w':=by
 obtain ⟨B0,R0,_⟩:=ZaB w (.slice ad D cd) (.slice af N cf) (.cells #[.int .i64 4,.int .i64 n,.string name,.string text] 54 (0,0));go_enter Tryz.func37,Tryz.ntmps37
 go_wp2_with fail
 generalize (((w.alloc (.cells #[.slice ad D cd,.slice af N cf] 25 (0,0))).alloc (.cells #[.int .i64 4,.int .i64 n,.string name,.string text] 54 (0,0))).alloc (.cells #[.slice none 0 0,.slice none 0 0] 25 (0,0)))=w0 at *;refine (C.out _ B0).mono ?_;intro e w1 h1;obtain ⟨p,q,p',q',rfl,O,G⟩:=h1.own;have R1:=R0.next G;have B1:=bch B0 G (nl _)
 have hfin:ArSaid w A E (.returned (.tuple #[.agg #[.slice p A.dicts.length q,.slice p' A.files.length q'],.int .i64 E])) _:=⟨_,_,rfl,(O.set2 (b:=w.heap.size+2) R0.lt (.slice p A.dicts.length q) (.slice p' A.files.length q')).low B0.size,Zp B1 (b:=w.heap.size+2) (by omega) (.slice p A.dicts.length q) (.slice p' A.files.length q')⟩
 clear R0 B0 C h1;generalize A.dicts.length=D2 at *;generalize A.files.length=N2 at *;have x0:=R1.c0;have x1:=R1.c1;have f0:=R1.f0;have f1:=R1.f1;have X5:=R1.set (u:=.slice p D2 q) (v:=.slice p' N2 q');clear R1 B1 G O;go_wp2_with fail
 clear x0 x1 f0 f1;have y0:=X5.c0;have y1:=X5.c1;generalize ((w1.setCell ⟨w.heap.size+2,0,none⟩ (.slice p D2 q)).setCell ⟨w.heap.size+2,1,none⟩ (.slice p' N2 q'))=wz at *;exact bodyPost_ret (v:=.tuple #[.agg #[.slice p D2 q,.slice p' N2 q'],.int .i64 E]) (by simp [results,Tryz.results37,go_sem,y0,y1]) rfl hfin
theorem Zmh (ad af:Option Addr) (cd cf D N:Nat) (k n:Int) (name text:ByteArray) (w:World) (h1:k ≠ 1) (h2:k ≠ 2) (h3:k ≠ 3) (h4:k ≠ 4) :
 Calls Tryz.prog 37 #[.agg #[.slice ad D cd,.slice af N cf],.agg #[.int .i64 k,.int .i64 n,.string name,.string text]] w fun e w'=>ArSaid w Ar.az 6 e w':=by
 obtain ⟨B0,R0,_⟩:=ZaB w (.slice ad D cd) (.slice af N cf) (.cells #[.int .i64 k,.int .i64 n,.string name,.string text] 54 (0,0));have k1:(k == 1)=false:=by simpa using h1
 have k2:(k == 2)=false:=by simpa using h2
 have k3:(k == 3)=false:=by simpa using h3
 have k4:(k == 4)=false:=by simpa using h4
 have hfin:=Zy (E:=6) B0;clear R0 B0 h1 h2 h3 h4;go_enter Tryz.func37,Tryz.ntmps37
 go_wp2_with fail
 exact bodyPost_ret (v:=.tuple #[.agg #[.slice none 0 0,.slice none 0 0],.int .i64 6]) (by simp [results,Tryz.results37,go_sem]) rfl hfin
theorem ZfL (ad af:Option Addr) (cd cf:Nat) (a:Ar.A) (x:Im.Act) (w:World) (h:ArV w ad af a) (hs:SaneA a) (hn:x.name.size<=140737488355328) :
 Calls Tryz.prog 37 #[av ad cd af cf a,xv x] w fun e w'=>ArSaid w (Im.doA a x) (Im.doE a x) e w':=by
 have C1:=ZtV ad af cd cf a.dicts.length a.files.length (Ar.putA a x.name x.text x.n) (Ar.putE a x.name x.text x.n) x.n x.name x.text w (fun w' h9=>ZnS ad af cd cf a x.name x.text x.n w' (h.below h9) hs hn);have C2:=ZuX ad af cd cf a.dicts.length a.files.length (Ar.ZbB a x.name) (Ar.getE a x.name) x.n x.name x.text w (fun w' h9=>ZkE ad af cd cf a x.name w' (h.below h9) hs);have C3:=Zus ad af cd cf a.dicts.length a.files.length (Ar.retA a x.n) (Ar.retE a x.n) x.n x.name x.text w (fun w' h9=>ZfC ad af cd cf a x.n w' (h.below h9) hs);have C4:=Zuy ad af cd cf a.dicts.length a.files.length (Ar.cmpA a) (Ar.chk a) x.n x.name x.text w (fun w' h9=>Zgj ad af cd cf a w' (h.below h9) hs);unfold Im.doA Im.doE xv av;by_cases k1:x.kind=1
 ·rw [if_pos k1,if_pos k1,k1];exact C1
 by_cases k2:x.kind=2
 ·rw [if_neg k1,if_neg k1,if_pos k2,if_pos k2,k2];exact C2
 by_cases k3:x.kind=3
 ·rw [if_neg k1,if_neg k1,if_neg k2,if_neg k2,if_pos k3,if_pos k3,k3];exact C3
 by_cases k4:x.kind=4
 ·rw [if_neg k1,if_neg k1,if_neg k2,if_neg k2,if_neg k3,if_neg k3,if_pos k4,if_pos k4,k4];exact C4
 rw [if_neg k1,if_neg k1,if_neg k2,if_neg k2,if_neg k3,if_neg k3,if_neg k4,if_neg k4];exact Zmh ad af cd cf _ _ x.kind x.n x.name x.text w k1 k2 k3 k4
theorem SaneA.do {a:Ar.A} (h:SaneA a) {x:Im.Act} (hn:x.name.size<=140737488355328):SaneA (Im.doA a x):=by
 unfold Im.doA;split
 ·exact h.put hn
 ·split
  ·exact h.drop _
  ·split
   ·exact h.ret _
   ·split
    ·exact h.cmp
    ·exact Zdu
def ZbJ (a:Ar.A) (w:World) (e:Ending) (w':World):Prop:=∃ v1 v2,e=.returned (.agg #[v1,v2])/\ArOwn w.heap.size w' v1 v2 a/\Below w.heap.size w w'
def SaneX (l:List Im.Act):Prop:=∀ x ∈ l,x.name.size<=140737488355328/\x.text.size<=140737488355328
theorem SaneX.at {l:List Im.Act} (h:SaneX l) {k:Nat} (hk:k<l.length):(Im.xa l k).name.size<=140737488355328/\(Im.xa l k).text.size<=140737488355328:=by
 rw [Im.ZcU hk];exact h _ (gM hk)
theorem SaneA.done {l:List Im.Act} (h:SaneX l):SaneA (Im.done l):=by
 have:∀ (l:List Im.Act) (a:Ar.A),SaneX l->SaneA a->SaneA (Im.ZsI l a):=fun l=>by
  induction l with
  | nil=>intro a _ h;exact h
  | cons x l ih =>
   intro a h1 h2;refine ih _ (fun y hy=>h1 y (List.mem_cons_of_mem _ hy)) ?_;show SaneA (if _ then _ else _);split
   ·exact h2.do (h1 x (List.mem_cons_self ..)).1
   ·exact h2
 exact this l _ h Zdu
theorem Im.done_take {l:List Im.Act} {k:Nat} (h:k<l.length):Im.done (l.take (k+1))=if Im.doE (Im.done (l.take k)) (Im.xa l k)=0 then Im.doA (Im.done (l.take k)) (Im.xa l k) else Im.done (l.take k):=by
 rw [List.take_succ_eq_append_getElem h,Im.ZmT,Im.ZcU h]
structure DS (w wr:World) (v1 v2:Value) (a:Ar.A):Prop where
 o:ArOwn (w.heap.size+2) wr v1 v2 a
 x:Bx wr (w.heap.size+1) v1 v2
 r:Bx wr w.heap.size (.slice none 0 0) (.slice none 0 0)
 g:Below w.heap.size w wr
theorem DS.next {w wr w':World} {v1 v2:Value} {a:Ar.A} (h:DS w wr v1 v2 a) (G:Below wr.heap.size wr w'):DS w w' v1 v2 a:=⟨h.o.next G,h.x.next G,h.r.next G,bch h.g G (Nat.le_refl _)⟩
theorem DS.put {w wr:World} {v1 v2 u1 u2:Value} {a b:Ar.A} (h:DS w wr v1 v2 a) {lo:Nat} (O:ArOwn lo wr u1 u2 b) (hl:w.heap.size+2<=lo):DS w ((wr.setCell ⟨w.heap.size+1,0,none⟩ u1).setCell ⟨w.heap.size+1,1,none⟩ u2) u1 u2 b :=
 ⟨(O.set2 (b:=w.heap.size+1) (by omega) u1 u2).low hl,h.x.set,h.r.far (by omega) u1 u2,Zp h.g (by omega) u1 u2⟩
theorem DS.start (w:World):DS w ((w.alloc (.cells #[.slice none 0 0,.slice none 0 0] 25 (0,0))).alloc (.cells #[.slice none 0 0,.slice none 0 0] 25 (0,0))) (.slice none 0 0) (.slice none 0 0) Ar.az:=by
 have B1:=Za w (.cells #[.slice none 0 0,.slice none 0 0] 25 (0,0));have B2:=Za (w.alloc (.cells #[.slice none 0 0,.slice none 0 0] 25 (0,0))) (.cells #[.slice none 0 0,.slice none 0 0] 25 (0,0));have X:=Bx.new (w.alloc (.cells #[.slice none 0 0,.slice none 0 0] 25 (0,0))) (.slice none 0 0) (.slice none 0 0);rw [show (w.alloc (.cells #[.slice none 0 0,.slice none 0 0] 25 (0,0))).heap.size=w.heap.size+1 by simp] at X;exact ⟨Zib _ _,X,(Bx.new w _ _).next B2,bch B1 B2 (nl _)⟩
theorem DS.fin {w wr:World} {v1 v2:Value} {a:Ar.A} (h:DS w wr v1 v2 a):Bx ((wr.setCell ⟨w.heap.size,0,none⟩ v1).setCell ⟨w.heap.size,1,none⟩ v2) w.heap.size v1 v2/\ZbJ a w (.returned (.agg #[v1,v2])) ((wr.setCell ⟨w.heap.size,0,none⟩ v1).setCell ⟨w.heap.size,1,none⟩ v2) :=
 ⟨h.r.set,_,_,rfl,(h.o.set2 (b:=w.heap.size) (by omega) v1 v2).low (by omega),Zp h.g (nl _) v1 v2⟩
theorem ZjQ (ad:Option Addr) (cap:Nat) (l:List Im.Act) (w:World) (h:XSl w ad l) (hX:SaneX l) (hN:l.length<=1000) (hM:Mx w) :
 Calls Tryz.prog 87 #[.slice ad l.length cap] w fun e w'=>ZbJ (Im.done l) w e w':=by
 have CD:Hid (∀ w' k p cp q cq,Below w.heap.size w w'->k<l.length->ArV w' p q (Im.done (l.take k))->Calls Tryz.prog 36 #[av p cp q cq (Im.done (l.take k)),.agg #[.int .i64 (Im.xa l k).kind,.int .i64 (Im.xa l k).n,.string (Im.xa l k).name,.string (Im.xa l k).text]] w' fun e w2=>ArSaid w' (Im.doA (Im.done (l.take k)) (Im.xa l k)) (Im.doE (Im.done (l.take k)) (Im.xa l k)) e w2):=fun w' k p cp q cq hb hk hv=>Zez p q cp cq (Im.done (l.take k)) (Im.xa l k) w' hv (SaneA.done (fun x hx=>hX x (List.mem_of_mem_take hx))) (hX.at hk).1 (hX.at hk).2 (hM.below hb)
 have HS:Hid (∀ k,k<l.length->Im.done (l.take (k+1))=if Im.doE (Im.done (l.take k)) (Im.xa l k)=0 then Im.doA (Im.done (l.take k)) (Im.xa l k) else Im.done (l.take k)):=fun k hk=>Im.done_take hk
 have HX:Hid (∀ w' k,Below w.heap.size w w'->k<l.length->∃ b off,ad=some ⟨b,off,none⟩/\b<w'.heap.size/\XC w' b (off+k*4) (Im.xa l k)):=fun w' k hb hk=>(h.below hb).at hk
 have H0:Hid (Im.done (l.take 0)=Ar.az):=rfl;have HE:Hid (Im.done (l.take l.length)=Im.done l):=by show _=_;rw [List.take_length]
 have T0:=DS.start w;clear h hX hM;rw [<-HE.out];clear HE;unfold av at CD;generalize l.length=N at *
 obtain ⟨dk,hdk⟩:∃ dk:Nat->Ar.A,∀ k,Im.done (l.take k)=dk k:=⟨_,fun _=>rfl⟩
 simp only [hdk] at CD HS H0 |-
 clear hdk;generalize Im.xa l=xa at *;go_enter Tryz.func87,Tryz.ntmps87
 go_wp2_with fail
 generalize ((w.alloc (.cells #[.slice none 0 0,.slice none 0 0] 25 (0,0))).alloc (.cells #[.slice none 0 0,.slice none 0 0] 25 (0,0)))=w0 at *;go_loopw [10] (fun i wr=>∃ (k:Nat) (v1 v2:Value),k<=N/\i=.int .i64 k/\DS w wr v1 v2 (dk k)) (fun i _=>N - (intOf i).toNat)
 case atStart=>exact ⟨0,_,_,by omega,rfl,by rw [H0.out];exact T0⟩
 case round =>
  clear T0 H0;obtain ⟨k,v1,v2,hk,rfl,T⟩:=hrel;obtain ⟨p,cp,q,cq,rfl,rfl,hv⟩:=T.o.slices;by_cases hlt:k<N
  ·have d1:decide ((k:Int)<(N:Int))=true:=zdT (by omega);have d1':decide (k<N)=true:=zdT hlt;have hki:(k:Int)<(N:Int):=by omega
   obtain ⟨b,off,rfl,hbl,c0,c1,c2,c3⟩:=HX.out wr k T.g hlt;have HS':=Zak (HS.out k hlt);have C:Hid (∀ w',Below w.heap.size w w'->ArV w' p q (dk k)->_):=fun w' h1 h2=>CD.out w' k p cp q cq h1 hlt h2
   generalize (xa k).kind=ak at *;generalize (xa k).n=an at *;generalize (xa k).name=nm at *;generalize (xa k).text=tx at *;generalize Im.doA (dk k) (xa k)=A2 at *;generalize Im.doE (dk k) (xa k)=E at *;have GA:=Za wr (.cells #[.int .i64 ak,.int .i64 an,.string nm,.string tx] 54 (0,0));have X1:=XB.new wr 54 ak an nm tx;have T1:=T.next GA;have hv1:=hv.below GA;generalize (dk k).dicts.length=D at *;generalize (dk k).files.length=F at *;have hlo:=T.x.lt;have y0:=T1.x.c0;have y1:=T1.x.c1;obtain ⟨x0,x1,x2,x3,_⟩:=X1;clear T HX CD;go_wp2_with fail
   clear y0 y1 x0 x1 x2 x3 c0 c1 c2 c3;have hsz:(wr.alloc (.cells #[.int .i64 ak,.int .i64 an,.string nm,.string tx] 54 (0,0))).heap.size=wr.heap.size+1:=by simp
   generalize (wr.alloc (.cells #[.int .i64 ak,.int .i64 an,.string nm,.string tx] 54 (0,0)))=w1 at *;refine (C.out _ T1.g hv1).mono ?_;intro e w2 h1;obtain ⟨p2,q2,p3,q3,rfl,O2,G2⟩:=h1.own;clear h1 C;generalize A2.dicts.length=D2 at *;generalize A2.files.length=F2 at *;have GB:=Za w2 (.cells #[.slice p2 D2 q2,.slice p3 F2 q3] 25 (0,0));have T3:=(T1.next G2).next GB;have O3:=O2.next GB;have XB:=Bx.new w2 (.slice p2 D2 q2) (.slice p3 F2 q3);clear T1 O2 G2 GB hv1 hv;generalize hw3:(w2.alloc (.cells #[.slice p2 D2 q2,.slice p3 F2 q3] 25 (0,0)))=w3 at *;by_cases hE:E=0
   ·subst hE;have e2:=HS'.out;rw [if_pos rfl] at e2;have HS2:=Zak e2;clear e2;have T4:=T3.put O3 (by omega);have k0:=XB.c0;have k1:=XB.c1;have y0:=T3.x.c0;have y1:=T3.x.c1;have z0:=T3.x.f0;have z1:=T3.x.f1;have hbl2:=XB.lt;clear T3 O3 XB HS';go_wp2_with fail
    clear hw3 k0 k1 y0 y1 z0 z1;go_roundw
    case rel=>exact ⟨k+1,_,_,by omega,by go_num,by rw [HS2.out];exact T4⟩
    case measure=>simp [intOf];omega
   ·have dE:(E == 0)=false:=by simpa using hE
    have e2:=HS'.out;rw [if_neg hE] at e2;have HS2:=Zak e2;clear e2 O3 XB HS';go_wp2_with fail
    clear hw3;go_roundw
    case rel=>exact ⟨k+1,_,_,by omega,by go_num,by rw [HS2.out];exact T3⟩
    case measure=>simp [intOf];omega
  ·obtain rfl:k=N:=by omega
   have d1:decide ((k:Int)<(k:Int))=false:=by simp
   have d1':decide (k<k)=false:=by simp
   obtain ⟨X9,hq⟩:=T.fin;generalize (dk k).dicts.length=D at *;generalize (dk k).files.length=F at *;have y0:=T.x.c0;have y1:=T.x.c1;have x0:=T.r.c0;have x1:=T.r.c1;have z0:=T.r.f0;have z1:=T.r.f1;clear T hv;go_wp2_with fail
   clear y0 y1 x0 x1 z0 z1;have y0:=X9.c0;have y1:=X9.c1;generalize ((wr.setCell ⟨w.heap.size,0,none⟩ (.slice p D cp)).setCell ⟨w.heap.size,1,none⟩ (.slice q F cq))=wz at *;exact bodyPost_ret (v:=.agg #[.slice p D cp,.slice q F cq]) (by simp [results,Tryz.results87,go_sem,y0,y1]) rfl hq
namespace Im
theorem ZgD (s:ByteArray):(∀ x ∈ rplL s,okX x)/\(rplL s).length<=100/\rplN s<=s.size:=by
 unfold rplL rplN;by_cases h:16384<s.size
 ·rw [if_pos h,if_pos h];exact ⟨by simp,by simp,by omega⟩
 ·rw [if_neg h,if_neg h];obtain ⟨_,h2,h3,_⟩:=ZqU 100 s;exact ⟨h2,h3,by omega⟩
theorem Zra (x:Act):(wrtT x).size<=1100:=by
 unfold wrtT;split
 ·rename_i h
  have h1:=Zdb (Zbv.1 h);have h2:=Nm.Zt (Zbh x).length (by omega);rw [Zj];simp only [actB,List.length_append];omega
 ·show 0<=_;omega
end Im
theorem Zeh (s:ByteArray):SaneX (Im.rplL s):=fun x hx=>by
 obtain ⟨_,_,h3,h4⟩:=(Im.ZgD s).1 x hx;exact ⟨by omega,by omega⟩
def Zca (a:Ar.A) (n:Nat) (E:Int) (w:World) (e:Ending) (w':World):Prop:=∃ v1 v2,e=.returned (.tuple #[.agg #[v1,v2],.int .i64 (n:Nat),.int .i64 E])/\ArOwn w.heap.size w' v1 v2 a/\Below w.heap.size w w'
theorem RpSaid.open {l:List Im.Act} {n:Nat} {E:Int} {w w':World} {e:Ending} (h:RpSaid l n E w e w'):∃ ad cap,e=.returned (.tuple #[.slice ad l.length cap,.int .i64 (n:Nat),.int .i64 E])/\XSl w' ad l/\Below w.heap.size w w':=by
 obtain ⟨v,rfl,h2,h3⟩:=h;obtain ⟨ad,cap,rfl,hx⟩:=Zqn h2;exact ⟨ad,cap,rfl,hx,h3⟩
theorem Zen (s:ByteArray) (w:World) (hM:Mx w) :
 Calls Tryz.prog 45 #[.string s] w fun e w'=>Zca (Im.done (Im.rplL s)) (Im.rplL s).length (Im.rplE s) w e w':=by
 have B1:=Za w (.cells #[.slice none 0 0,.slice none 0 0] 25 (0,0));have R1:=Bx.new w (.slice none 0 0) (.slice none 0 0);have C:=Zdh s (w.alloc (.cells #[.slice none 0 0,.slice none 0 0] 25 (0,0)));obtain ⟨_,hl,_⟩:=Im.ZgD s;have hX:=Zeh s;by_cases hb:16384<s.size
 ·have e1:Im.rplL s=[]:=if_pos hb;have e2:Im.rplE s=2:=if_pos hb;rw [e1,e2] at C;rw [e1,e2];clear e1 e2 hl hX hM
  have HQ:Hid (∀ w',Below w.heap.size w w'->Zca (Im.done []) ([]:List Im.Act).length 2 w (.returned (.tuple #[.agg #[.slice none 0 0,.slice none 0 0],.int .i64 0,.int .i64 2])) w'):=fun w' h9=>⟨_,_,rfl,Zib _ _,h9⟩
  generalize Zca (Im.done []) ([]:List Im.Act).length 2 w=Q at *;generalize Im.rplN s=n at *;go_enter Tryz.func45,Tryz.ntmps45
  go_wp2_with fail
  generalize (w.alloc (.cells #[.slice none 0 0,.slice none 0 0] 25 (0,0)))=w0 at *;refine C.mono ?_;intro e w1 h1;obtain ⟨ad,cap,rfl,_,G⟩:=h1.open;have R2:=R1.next G;have hq:=HQ.out _ (Zp (bch B1 G (nl _)) (b:=w.heap.size) (nl _) (.slice none 0 0) (.slice none 0 0));have X5:=R2.set (u:=.slice none 0 0) (v:=.slice none 0 0);have x0:=R2.c0;have x1:=R2.c1;have f0:=R2.f0;have f1:=R2.f1;clear C R1 R2 B1 G h1 HQ;go_wp2_with fail
  clear x0 x1 f0 f1;have y0:=X5.c0;have y1:=X5.c1;generalize ((w1.setCell ⟨w.heap.size,0,none⟩ (.slice none 0 0)).setCell ⟨w.heap.size,1,none⟩ (.slice none 0 0))=wz at *;exact bodyPost_ret (v:=.tuple #[.agg #[.slice none 0 0,.slice none 0 0],.int .i64 0,.int .i64 2]) (by simp [results,Tryz.results45,go_sem,y0,y1]) rfl hq
 ·have e2:Im.rplE s=0:=if_neg hb;rw [e2] at C;rw [e2];clear e2 hb;generalize Im.rplL s=l at *;generalize Im.rplN s=n at *;have CD:Hid (∀ w' ad cap,Below w.heap.size w w'->XSl w' ad l->Calls Tryz.prog 87 #[.slice ad l.length cap] w' fun e w2=>ZbJ (Im.done l) w' e w2):=fun w' ad cap h1 h2=>ZjQ ad cap l w' h2 hX (by omega) (hM.below h1)
  have HQ:Hid (∀ v1 v2 w',ArOwn w.heap.size w' v1 v2 (Im.done l)->Below w.heap.size w w'->Zca (Im.done l) l.length 0 w (.returned (.tuple #[.agg #[v1,v2],.int .i64 (l.length:Nat),.int .i64 0])) w'):=fun v1 v2 w' h1 h2=>⟨_,_,rfl,h1,h2⟩
  generalize Zca (Im.done l) l.length 0 w=Q at *;clear hX hM;go_enter Tryz.func45,Tryz.ntmps45
  go_wp2_with fail
  generalize (w.alloc (.cells #[.slice none 0 0,.slice none 0 0] 25 (0,0)))=w0 at *;refine C.mono ?_;intro e w1 h1;obtain ⟨ad,cap,rfl,hx,G⟩:=h1.open;have R2:=R1.next G;have B2:=bch B1 G (nl _);have C2:=CD.out w1 ad cap B2 hx;have hlt:=R2.lt;clear C R1 B1 G h1 CD hx;generalize l.length=N at *;generalize Im.done l=A at *;go_wp2_with fail
  refine C2.mono ?_;rintro e w2 ⟨v1,v2,rfl,O,G⟩;have R3:=R2.next G;have B3:=bch B2 G (nl _);have hq:=HQ.out v1 v2 _ ((O.set2 (b:=w.heap.size) hlt v1 v2).low (by omega)) (Zp B3 (b:=w.heap.size) (nl _) v1 v2);obtain ⟨p,cp,q,cq,rfl,rfl,_⟩:=O.slices;generalize A.dicts.length=D at *;generalize A.files.length=F at *;have X5:=R3.set (u:=.slice p D cp) (v:=.slice q F cq);have x0:=R3.c0;have x1:=R3.c1;have f0:=R3.f0;have f1:=R3.f1;clear C2 R2 R3 B2 B3 G O HQ;go_wp2_with fail
  clear x0 x1 f0 f1;have y0:=X5.c0;have y1:=X5.c1;generalize ((w2.setCell ⟨w.heap.size,0,none⟩ (.slice p D cp)).setCell ⟨w.heap.size,1,none⟩ (.slice q F cq))=wz at *;exact bodyPost_ret (v:=.tuple #[.agg #[.slice p D cp,.slice q F cq],.int .i64 (N:Nat),.int .i64 0]) (by simp [results,Tryz.results45,go_sem,y0,y1]) rfl hq
end Go.Proofs.YtbjbjbpgmojcbabGreat
