/- A part of the proof: what it leans on. -/
import Derived.Test.YtbjbjbpgmojcbacGreatLk33
import Derived.Test.YtbjbjbpgmojcbacGreatLk36
namespace Go.Proofs.YtbjbjbpgmojcbacGreat
open Go.RowKit
set_option maxRecDepth 8000 in
set_option maxHeartbeats 8000000 in
theorem Zhc (ad af:Option Addr) (cd cf:Nat) (a:Ar.A) (size:Int) (w:World) (h:ArV w ad af a) (hs:SaneA a) (hE:Ar.retE a size=0) :
 Calls Tryz.prog 16 #[av ad cd af cf a,.int .i64 size] w fun e w'=>ArSaid w ⟨Ar.retD a size,a.files.map (Ar.reF a size)⟩ 0 e w':=by
 obtain ⟨hc,hzz1,hzz2,h4⟩:=Ar.ZcE hE;obtain ⟨i0,hi,hz0,hz1,hz2⟩:=info_parts (P:=Tryz.prog) (e:=9) (z:=.string ⟨#[]⟩) (size:=1) (bytes:=16) (by kernel_rfl);obtain ⟨j0,gi,gz0,gz1,gz2⟩:=info_parts (P:=Tryz.prog) (e:=47) (z:=.agg #[.string ⟨#[]⟩,.int .i64 0,.int .i64 0,.int .i64 0,.string ⟨#[]⟩]) (size:=5) (bytes:=56) (by kernel_rfl);obtain ⟨m1,m2,m3⟩:=Ar.Zw.1 (Ar.Ze.1 hc).1;have C1:Hid (∀ w',Below w.heap.size w w'->Calls Tryz.prog 36 #[av ad cd af cf a] w' fun e w2=>e=.returned (.int .i64 (Ar.chk a))/\Below w'.heap.size w' w2):=fun w' h9=>Zr ad af cd cf a w' (h.below h9) hs
 have C2:Hid (∀ w',Calls Tryz.prog 38 #[.int .i64 size,.int .i64 0,.int .i64 256] w' fun e w2=>e=.returned (.bool (decide (0<=size/\size<=256)))/\w2=w'):=fun w'=>ZS size 0 256 w'
 have C3:Hid (∀ k,k<a.files.length->∀ w',Below w.heap.size w w'->Calls Tryz.prog 40 #[av ad cd af cf a,.int .i64 (k:Nat)] w' fun e w2=>e=.returned (.string (Ar.tx a.dicts (Ar.fa a.files k)))/\Below w'.heap.size w' w2):=fun k hk w' h9=>Zlg ad af cd cf a k w' (h.below h9) hs hc hk
 have hT:=Ar.ZcJ hc;have HTl:Hid ((Ar.txs a).length=a.files.length):=by show _=_;unfold Ar.txs;rw [List.length_map]
 have C4:Hid (∀ w' adt capt,TxSl w' adt (Ar.txs a)->Calls Tryz.prog 41 #[.slice adt a.files.length capt,.int .i64 size] w' fun e w2=>e=.returned (.string (Tr.trn (Ar.txs a) size.toNat))/\Below w'.heap.size w' w2):=fun w' adt capt h9=>by
  have:=ZhR (Ar.txs a) size adt capt w' h9 hT.1 (fun i=>by
   by_cases hi:i<(Ar.txs a).length
   ·have e:Tr.xa (Ar.txs a) i=(Ar.txs a)[i]:=by simp [Tr.xa,hi]
    rw [e];exact hT.2 _ (gM hi)
   ·have e:Tr.xa (Ar.txs a) i=⟨#[]⟩:=by simp [Tr.xa,hi]
    rw [e];exact Nat.zero_le _) hzz1 hzz2
  rw [HTl.out] at this;exact this
 have hmr:=Ar.Zfj hE;have hrl:(Ar.retD a size).length=a.dicts.length+1:=by unfold Ar.retD;rw [List.length_append];rfl
 have hrm:(Ar.retD a size).map Value.string=a.dicts.map Value.string++[.string (Tr.trn (Ar.txs a) size.toNat)]:=by unfold Ar.retD;rw [List.map_append];rfl
 have C5:Hid (∀ w' adx cdx afx cfx nfx m,m<a.files.length->TxSl w' adx (Ar.retD a size)->Calls Tryz.prog 39 #[.agg #[.slice adx (a.dicts.length+1) cdx,.slice afx nfx cfx],.string (Ar.fa a.files m).name,.string (Ar.tx a.dicts (Ar.fa a.files m)),.int .i64 ((a.dicts.length:Int)+1)] w' fun e w2=>e=.returned (fv (Ar.reF a size (Ar.fa a.files m)))/\Below w'.heap.size w' w2):=fun w' adx cdx afx cfx nfx m hm hx=>by
  have hmem:Ar.fa a.files m ∈ a.files:=by rw [Ar.ZaG hm];exact gM hm
  have:=Zfa adx afx cdx cfx ⟨Ar.retD a size,List.replicate nfx Ar.fz⟩ (Ar.fa a.files m).name (Ar.tx a.dicts (Ar.fa a.files m)) ((a.dicts.length:Int)+1) w' hx (by show (Ar.retD a size).length<=_;omega) (by show Ar.has (Ar.retD a size) _=true;unfold Ar.has;rw [hrl];exact zdT ⟨by omega,by omega⟩) (by have:=Ar.ZaL hmr ((a.dicts.length:Int)+1);exact this) (Ar.Zde hc hmem);unfold av at this;simp only [hrl,List.length_replicate] at this;exact this
 have HDn:Hid (∀ w',Below w.heap.size w w'->(a.dicts.length=0\/∃ b,ad=some b/\∀ j u,(a.dicts.map Value.string)[j]?=some u->w'.cell? (b.add j)=some u)):=fun w' h9=>(h.ds.below h9).news
 have HFl:Hid (∀ k,k<a.files.length->∃ b off,af=some ⟨b,off,none⟩/\b<w.heap.size/\Hid (∀ w',Below w.heap.size w w'->w'.cell? ⟨b,off+k*5,none⟩=some (.string (Ar.fa a.files k).name))):=fun k hk=>by
  obtain ⟨b,off,h1,h2,h3⟩:=h.fs.at hk;exact ⟨b,off,h1,h2,fun w' h9=>(h3.below h9 h2).c0⟩
 have HDl:Hid ((a.dicts.map Value.string).length=a.dicts.length*1):=by show _=_;simp
 have HD1:Hid (∀ u ∈ a.dicts.map Value.string,u.oneCell'=true):=fun u hu=>by obtain ⟨x,_,rfl⟩:=List.mem_map.1 hu;rfl
 have HTK:Hid (∀ k,k<a.files.length->Ar.txK a (k+1)=Ar.txK a k++[Ar.tx a.dicts (Ar.fa a.files k)]):=fun k hk=>Ar.ZiM hk
 have HTA:Hid (Ar.txK a a.files.length=Ar.txs a):=Ar.ZlV a;have HT5:Hid (∀ k,k<a.files.length->(Ar.tx a.dicts (Ar.fa a.files k)).size<=512):=fun k hk=>Ar.Zde hc (by rw [Ar.ZaG hk];exact gM hk)
 have HTx:Hid (∀ k,k<a.files.length->Tr.xa (Ar.txs a) k=Ar.tx a.dicts (Ar.fa a.files k)):=fun k hk=>by unfold Ar.txs;simp [Tr.xa,Ar.fa,hk]
 have HOw:Hid (∀ lo w' v,w'.ownsRow lo 9 1 v a.files.length ((Ar.txs a).map Value.string)->∃ adt capt,v=.slice adt a.files.length capt/\TxSl w' adt (Ar.txs a)):=fun lo w' v h9=>by
  rw [<-HTl.out] at h9 |-
  obtain ⟨adt,capt,h1,_,h2⟩:=Zez h9;exact ⟨adt,capt,h1,TxFar.sl h2⟩
 have HRx:Hid (∀ lo w' adx cdx,w'.ownsRow lo 9 1 (.slice adx (a.dicts.length+1) cdx) (a.dicts.length+1) (a.dicts.map Value.string++[.string (Tr.trn (Ar.txs a) size.toNat)])->TxSl w' adx (Ar.retD a size)):=fun lo w' adx cdx h9=>by
  rw [<-hrm,<-hrl] at h9;obtain ⟨ad2,cap2,e2,_,h5⟩:=Zez h9;simp only [Value.slice.injEq] at e2;obtain ⟨rfl,_,rfl⟩:=e2;exact TxFar.sl h5
 have hQ1:Hid (∀ v1 v2 w',w'.ownsRow w.heap.size 9 1 v1 (a.dicts.length+1) (a.dicts.map Value.string++[.string (Tr.trn (Ar.txs a) size.toNat)])->w'.ownsRow w.heap.size 47 5 v2 a.files.length (fcs ((a.files.take a.files.length).map (Ar.reF a size)))->(∀ j,v1.ownBlock=some j->v2.ownBlock ≠ some j)->Below w.heap.size w w'->ArSaid w ⟨Ar.retD a size,a.files.map (Ar.reF a size)⟩ 0 (.returned (.tuple #[.agg #[v1,v2],.int .i64 0])) w'):=fun v1 v2 w' k1 k2 k3 k4=>by
  rw [List.take_length] at k2;rw [<-hrm,<-hrl] at k1;exact ⟨v1,v2,rfl,⟨k1,by show w'.ownsRow _ _ _ _ (a.files.map (Ar.reF a size)).length _;rw [List.length_map];exact k2,k3⟩,k4⟩
 generalize ArSaid w ⟨Ar.retD a size,a.files.map (Ar.reF a size)⟩ 0=Q at *;have HFS:Hid (∀ k,k<a.files.length->fcs ((a.files.take (k+1)).map (Ar.reF a size))=fcs ((a.files.take k).map (Ar.reF a size))++[.string (Ar.reF a size (Ar.fa a.files k)).name,.int .i64 (Ar.reF a size (Ar.fa a.files k)).dict,.int .i64 (Ar.reF a size (Ar.fa a.files k)).size,.int .i64 (Ar.reF a size (Ar.fa a.files k)).sum,.string (Ar.reF a size (Ar.fa a.files k)).blk]):=fun k hk=>by rw [Ar.ZN hk,List.map_append,Zy];rfl
 have HF0:Hid (fcs ((a.files.take 0).map (Ar.reF a size))=[]):=rfl;rw [hc] at C1;rw [decide_eq_true ⟨hzz1,hzz2⟩] at C2;unfold av at C1 C3 |-
 unfold fv at C5;clear h hs hE hc m3 hT hmr hrl hrm;generalize Tr.trn (Ar.txs a) size.toNat=X at *;generalize Ar.retD a size=rd at *;generalize Ar.reF a size=rf at *
 obtain ⟨D,hDD⟩:∃ D,a.dicts.length=D:=⟨_,rfl⟩
 obtain ⟨N,hNN⟩:∃ N,a.files.length=N:=⟨_,rfl⟩
 simp only [hDD,hNN] at C1 C3 C4 C5 HDn HFl HDl HTK HTA HT5 HTx HOw HRx hQ1 HFS HTl m1 m2 h4 |-
 clear hDD hNN;generalize a.dicts.map Value.string=ds at *;generalize Ar.fa a.files=fa at *;generalize Ar.tx a.dicts=tx at *;have hDi:(D:Int)<=4:=by omega
 have hNi:(N:Int)<=12:=by omega
 have d4:decide ((4:Int)<=(D:Int))=false:=dF (by omega);have d4':decide (4<=D)=false:=dF (by omega);go_enter Tryz.func16,Tryz.ntmps16
 go_wp2_with fail
 refine (C1.out _ (Fr.start w _ _).b).mono ?_;rintro e w1 ⟨rfl,G1⟩;have F1:=(Fr.start w _ _).next G1;clear G1 C1;obtain ⟨b,a0,a1,r0,r1,z0,z1,hz⟩:=id F1;go_wp2_with fail
 refine (C2.out _).mono ?_;rintro e w3 ⟨rfl,rfl⟩;clear C2;go_wp2_with fail
 clear b a0 a1 r0 r1 z0 z1;go_loopw [7,8] (fun l i wr=>∃ (k:Nat),k<=N/\i=.int .i64 k/\wr.ownsRow w3.heap.size 9 1 l k ((Ar.txK a k).map Value.string)/\Below w3.heap.size w3 wr) (fun _ i _=>N - (intOf i).toNat)
 case atStart=>exact ⟨0,by omega,rfl,⟨rfl,.inl ⟨rfl,rfl⟩⟩,bR _ _⟩
 case round =>
  rename_i vl _
  obtain ⟨k,hk2,rfl,hrow,B1⟩:=hrel;have F2:=F1.next B1;obtain ⟨B2,a0,a1,r0,r1,z0,z1,hzF⟩:=id F2;by_cases hlt:k<N
  ·have e1:decide ((k:Int)<(N:Int))=true:=zdT (by omega);have e1':decide (k<N)=true:=zdT hlt;have hki:(k:Int)<(N:Int):=by omega
   have c3:=C3.out k hlt wr B2;have HN:=HTK.out k hlt;have hT5:=HT5.out k hlt;generalize tx (fa k)=T at *;go_wp2_with fail
   refine c3.mono ?_;rintro e w4 ⟨rfl,G⟩;have hrow4:=Zj hrow G;have B4:Below w3.heap.size w3 w4:=bch B1 G (nl _);have hz4:=B4.size;clear G hrow c3 a0 a1 r0 r1 z0 z1
   go_wp2_with (first
    | (at_builtin;refine wpList_append_own _ rfl _ _ 30 rfl w3.heap.size 9 i0 (.string ⟨#[]⟩) 1 16 U30 hi hz0 hz1 hz2 rfl (by decide) _ _ _ rfl (hrow4.alloc _) ⟨w4.heap.size,0,none⟩ 1 1 [.string T] rfl rfl (cell_one_new _ _ _) (by simp [Value.oneCell']) (by unfold maxLen at *;omega) (by omega) (by simp;omega) ?_;intro v' w5 hown' hg5 hnil5;go_frame)
    | fail)
   have B5:Below w3.heap.size w3 w5:=(B4.alloc B4.size (.cells #[.string T] 9 (0,0))).grown hg5 (by simp;omega) (fun j hj=>(hrow4.lt j hj).1);go_roundw
   case rel=>exact ⟨k+1,by omega,by go_num,by rw [HN,List.map_append];exact hown',B5⟩
   case measure=>simp [intOf];omega
  ·obtain rfl:k=N:=by omega
   have e1:decide ((k:Int)<(k:Int))=false:=by simp
   rw [HTA.out] at hrow;obtain ⟨adt,capt,rfl,htx⟩:=HOw.out _ _ _ hrow;have hzw:w.heap.size<wr.heap.size:=by omega
   have O0:=Zco wr wr.heap.size 9 1 (nl _);have hD2:=HDn.out _ (B2.alloc (by have:=B2.size;omega) (.cells #[] 9 (0,0)));have hds1:=HDl.out;have hds2:=HD1.out
   go_wp2_with (first
    | (at_builtin;refine Zac rfl _ _ 30 rfl wr.heap.size 9 i0 (.string ⟨#[]⟩) 1 16 U30 hi hz0 hz1 hz2 rfl (by decide) wr.heap.size 0 0 [] rfl O0 ad D cd ds rfl hds1 hD2 hds2 (by unfold maxLen;omega) (by omega) (by simp) _ rfl ?_;intro g cp w5 hown5 hgrow5 hat5)
    | fail)
   have BX:Below wr.heap.size wr w5:=((bR _ _).alloc (nl _) _).grown hgrow5 (by simp) (fun j hj=>by simp at hj;omega);simp only [Nat.zero_add,List.nil_append] at hown5 |-
   clear O0 hD2 hds1 hds2 hgrow5 hat5 HDn HDl HD1;refine (C4.out w5 adt capt (htx.below BX)).mono ?_;rintro e w6 ⟨rfl,G6⟩;have hown6:=Zj hown5 G6;have B6:Below wr.heap.size wr w6:=bch BX G6 (nl _);have hz6:=B6.size;clear G6 hown5 BX C4 a0 a1 r0 r1 z0 z1
   go_wp2_with (first
    | (at_builtin;refine zwL _ rfl _ _ 30 rfl wr.heap.size 9 i0 (.string ⟨#[]⟩) 1 16 U30 hi hz0 hz1 hz2 rfl (by decide) (.slice (some ⟨g,0,none⟩) D cp) D ds rfl (hown6.alloc _) ⟨w6.heap.size,0,none⟩ 1 1 [.string X] rfl rfl (cell_one_new _ _ _) (by simp [Value.oneCell']) (by decide) (by unfold maxLen;omega) (by omega) (by simp;omega) _ rfl ?_;intro g2 cp2 w7 hown7 hgrow7 hat7 hlt7)
    | fail)
   have B7:Below wr.heap.size wr w7:=(B6.alloc B6.size (.cells #[.string X] 9 (0,0))).grown hgrow7 (by simp;omega) (fun j hj=>(hown6.lt j hj).1);have S0:=CpS.new1 B7 B7.size hown7;clear hgrow7 hat7 hlt7 hown7 hown6 B6 hz6 B7;generalize (w7.alloc (.cells #[.slice (some ⟨g2,0,none⟩) (D+1) cp2,.slice none 0 0] 33 (0,0)))=w8 at *;generalize w7.heap.size=C at *;generalize hw4:wr=w4 at *;clear hw4;go_loopw [10] (fun i wr=>∃ (m:Nat) (v2:Value),m<=k/\i=.int .i64 m/\CpS w4 wr C w4.heap.size (.slice (some ⟨g2,0,none⟩) (D+1) cp2) v2 (D+1) m (ds++[.string X]) (fcs ((a.files.take m).map rf))) (fun i _=>k - (intOf i).toNat)
   case atStart=>exact ⟨0,_,by omega,rfl,by rw [HF0.out];exact S0⟩
   case round =>
    obtain ⟨m,v2,hm2,rfl,S1⟩:=hrel;have F4:=F2.keep S1.bel hzF;obtain ⟨B4,a0,a1,r0,r1,z0,z1,hz4⟩:=id F4;by_cases hlm:m<k
    ·have e2:decide ((m:Int)<(k:Int))=true:=zdT (by omega);have e2':decide (m<k)=true:=zdT hlm;have hmi:(m:Int)<(k:Int):=by omega
     obtain ⟨b,off,rfl,hbw,HFw⟩:=HFl.out m hlm;have c0:=HFw.out wr B4;have hbl:b<wr.heap.size:=nT hbw B4.size;obtain ⟨bt,ot,rfl,hbt,htc⟩:=htx.at (i:=m) (by rw [HTl.out];exact hlm)
     rw [HTx.out m hlm] at htc;have HT2:Hid (∀ w',Below w4.heap.size w4 w'->w'.cell? ⟨bt,ot+m,none⟩=some (.string (tx (fa m)))):=fun w' h9=>(h9.cell (p:=⟨bt,ot+m,none⟩) hbt).trans htc
     clear htc;have hbtw:bt<wr.heap.size:=nT hbt S1.bel.size;have c1S:=S1.c1;have c0S:=S1.c0;have f1S:=S1.f1;have hbC:=S1.hb;have hlC:=S1.hC;obtain ⟨p2,q2,rfl,_⟩:=Zi S1.o2;have HN:=HFS.out m hlm;have htd:=HRx.out _ _ _ _ S1.o1;have CP:Hid (∀ w',Below wr.heap.size wr w'->Calls Tryz.prog 39 #[.agg #[.slice (some ⟨g2,0,none⟩) (D+1) cp2,.slice p2 m q2],.string (fa m).name,.string (tx (fa m)),.int .i64 ((D:Int)+1)] w' fun e w2=>e=.returned (.agg #[.string (rf (fa m)).name,.int .i64 (rf (fa m)).dict,.int .i64 (rf (fa m)).size,.int .i64 (rf (fa m)).sum,.string (rf (fa m)).blk])/\Below w'.heap.size w' w2):=fun w' h9=>C5.out w' _ _ _ _ _ m hlm (htd.below h9)
     clear htd;generalize (rf (fa m)).name=n0 at *;generalize (rf (fa m)).dict=n1 at *;generalize (rf (fa m)).size=n2 at *;generalize (rf (fa m)).sum=n3 at *;generalize (rf (fa m)).blk=n4 at *;generalize (fa m).name=f0 at *;generalize tx (fa m)=tm at *;go_wp2_with fail
     have HSS:Hid (∀ w',Below w4.heap.size w4 w'->w'.cell? ⟨C,0,none⟩=some (.slice (some ⟨g2,0,none⟩) (D+1) cp2)->(fun w'=>w'.cell? ⟨w.heap.size,1,none⟩=some (.slice (some ⟨b,off,none⟩) k cf)/\w'.cell? ⟨b,off+m*5,none⟩=some (.string f0)/\w'.cell? ⟨bt,ot+m,none⟩=some (.string tm)/\w'.cell? ⟨C,0,none⟩=some (.slice (some ⟨g2,0,none⟩) (D+1) cp2)) w'):=fun w' h9 h8=>⟨(F2.keep h9 hzF).a1,HFw.out w' (F2.keep h9 hzF).b,HT2.out w' h9,h8⟩
     refine wp_region_held_drew (S:=fun w'=>w'.cell? ⟨w.heap.size,1,none⟩=some (.slice (some ⟨b,off,none⟩) k cf)/\w'.cell? ⟨b,off+m*5,none⟩=some (.string f0)/\w'.cell? ⟨bt,ot+m,none⟩=some (.string tm)/\w'.cell? ⟨C,0,none⟩=some (.slice (some ⟨g2,0,none⟩) (D+1) cp2)) (by kernel_rfl) (HSS.out _ S1.bel.drew c0S) (fun hS=>?_);refine wK (i:=0) (fuel:=20) (v:=.pointer (some ⟨C,1,none⟩)) rfl (by kernel_rfl) (by kernel_rfl) (by kernel_rfl) (fun _ _ _ h=>h) (Or.inl ⟨by rfl,fun w' h9=>by obtain ⟨k1,k2,k3,k4⟩:=h9;go_simp⟩) hS ?_;refine wK (i:=3) (fuel:=19) (v:=.pointer (some ⟨w.heap.size,1,none⟩)) rfl (by kernel_rfl) (by kernel_rfl) (by kernel_rfl) (fun _ _ _ h=>h) (Or.inl ⟨by rfl,fun w' h9=>by obtain ⟨k1,k2,k3,k4⟩:=h9;go_simp⟩) hS ?_;refine wK (i:=4) (fuel:=18) (v:=.slice (some ⟨b,off,none⟩) k cf) rfl (by kernel_rfl) (by kernel_rfl) (by kernel_rfl) (fun _ _ _ h=>h) (Or.inl ⟨by rfl,fun w' h9=>by obtain ⟨k1,k2,k3,k4⟩:=h9;go_simp⟩) hS ?_;refine wK (i:=5) (fuel:=17) (v:=.int .i64 (m:Nat)) rfl (by kernel_rfl) (by kernel_rfl) (by kernel_rfl) (fun _ _ _ h=>h) (Or.inl ⟨by rfl,fun w' h9=>by obtain ⟨k1,k2,k3,k4⟩:=h9;go_simp⟩) hS ?_;refine wK (i:=6) (fuel:=16) (v:=.pointer (some ⟨b,off+m*5,none⟩)) rfl (by kernel_rfl) (by kernel_rfl) (by kernel_rfl) (fun _ _ _ h=>h) (Or.inl ⟨by rfl,fun w' h9=>by obtain ⟨k1,k2,k3,k4⟩:=h9;go_simp⟩) hS ?_;refine wK (i:=7) (fuel:=15) (v:=.pointer (some ⟨b,off+m*5,none⟩)) rfl (by kernel_rfl) (by kernel_rfl) (by kernel_rfl) (fun _ _ _ h=>h) (Or.inl ⟨by rfl,fun w' h9=>by obtain ⟨k1,k2,k3,k4⟩:=h9;go_simp⟩) hS ?_;refine wK (i:=8) (fuel:=14) (v:=.string f0) rfl (by kernel_rfl) (by kernel_rfl) (by kernel_rfl) (fun _ _ _ h=>h) (Or.inl ⟨by rfl,fun w' h9=>by obtain ⟨k1,k2,k3,k4⟩:=h9;go_simp⟩) hS ?_;refine wK (i:=9) (fuel:=13) (v:=.slice (some ⟨bt,ot,none⟩) k capt) rfl (by kernel_rfl) (by kernel_rfl) (by kernel_rfl) (fun _ _ _ h=>h) (Or.inl ⟨by rfl,fun w' h9=>by obtain ⟨k1,k2,k3,k4⟩:=h9;go_simp⟩) hS ?_;refine wK (i:=10) (fuel:=12) (v:=.int .i64 (m:Nat)) rfl (by kernel_rfl) (by kernel_rfl) (by kernel_rfl) (fun _ _ _ h=>h) (Or.inl ⟨by rfl,fun w' h9=>by obtain ⟨k1,k2,k3,k4⟩:=h9;go_simp⟩) hS ?_;refine wK (i:=11) (fuel:=11) (v:=.pointer (some ⟨bt,ot+m,none⟩)) rfl (by kernel_rfl) (by kernel_rfl) (by kernel_rfl) (fun _ _ _ h=>h) (Or.inl ⟨by rfl,fun w' h9=>by obtain ⟨k1,k2,k3,k4⟩:=h9;go_simp⟩) hS ?_;refine wK (i:=12) (fuel:=10) (v:=.string tm) rfl (by kernel_rfl) (by kernel_rfl) (by kernel_rfl) (fun _ _ _ h=>h) (Or.inl ⟨by rfl,fun w' h9=>by obtain ⟨k1,k2,k3,k4⟩:=h9;go_simp⟩) hS ?_;refine wK (i:=13) (fuel:=9) (v:=.pointer (some ⟨C,0,none⟩)) rfl (by kernel_rfl) (by kernel_rfl) (by kernel_rfl) (fun _ _ _ h=>h) (Or.inl ⟨by rfl,fun w' h9=>by obtain ⟨k1,k2,k3,k4⟩:=h9;go_simp⟩) hS ?_;refine wK (i:=14) (fuel:=8) (v:=.slice (some ⟨g2,0,none⟩) (D+1) cp2) rfl (by kernel_rfl) (by kernel_rfl) (by kernel_rfl) (fun _ _ _ h=>h) (Or.inl ⟨by rfl,fun w' h9=>by obtain ⟨k1,k2,k3,k4⟩:=h9;go_simp⟩) hS ?_;refine wK (i:=15) (fuel:=7) (v:=.int .i64 ((D:Int)+1)) rfl (by kernel_rfl) (by kernel_rfl) (by kernel_rfl) (fun _ _ _ h=>h) (Or.inl ⟨by rfl,fun w' h9=>by obtain ⟨k1,k2,k3,k4⟩:=h9;go_simp⟩) hS ?_;clear HFl HTx HTK HT5 C3 C5 HFS HRx HOw HTA HTl HF0 hQ1;refine wY (rs:=[1,2]) (fuel:=6) (by kernel_rfl) (by simp) ?_;refine rC rfl (fun K hK=>?_) (rC rfl (fun K hK=>?_) rN)
     ·go_simp
      refine hK.out _ _ hS (fun _=>?_);clear hK;refine wY (rs:=[2]) (fuel:=5) (by kernel_rfl) (by simp) ?_;refine rC rfl (fun K hK=>?_) rN;go_simp
      refine hK.out _ _ hS (fun _=>?_);clear hK;refine wY (rs:=[16]) (fuel:=4) (by kernel_rfl) (by simp) ?_;refine rC rfl (fun K hK=>?_) rN;go_simp
      refine (CP.out _ ((bR _ _).drew)).mono ?_;rintro e t8 ⟨rfl,G8⟩;have S2:=S1.below (Below.trans ((bR _ _).drew) G8);have c1T:=S2.c1;have hbT:=S2.hb
      have c9T:∀ o,(t8.alloc o).cell? ⟨C,1,none⟩=some (.slice p2 m q2):=(fun o=>(cA _ _ _ hbT).trans c1T)
      have hS8:=HSS.out _ S2.bel S2.c0;refine hK.out _ _ hS8 (fun _=>?_);clear hK;refine wY (rs:=[17]) (fuel:=3) (by kernel_rfl) (by simp) ?_;refine rC rfl (fun K hK=>?_) rN;go_simp
      have SA:=S2.below ((bR _ _).alloc (nl _) (.cells #[.string n0,.int .i64 n1,.int .i64 n2,.int .i64 n3,.string n4] 47 (0,0)));have hS9:=HSS.out _ SA.bel SA.c0;refine hK.out _ _ hS9 (fun _=>?_);clear hK;refine wY (rs:=[18]) (fuel:=2) (by kernel_rfl) (by simp) ?_;refine rC rfl (fun K hK=>?_) rN;refine zsL _ rfl _ _ 31 rfl w4.heap.size 47 j0 (.agg #[.string ⟨#[]⟩,.int .i64 0,.int .i64 0,.int .i64 0,.string ⟨#[]⟩]) 5 56 U31 gi gz0 gz1 gz2 rfl (by decide) _ _ _ rfl (S2.o2.alloc _) ⟨t8.heap.size,0,none⟩ 1 1 [.string n0,.int .i64 n1,.int .i64 n2,.int .i64 n3,.string n4] rfl rfl (Zdw _ _ _ _ _ _ _) (one5 _ _ _ _ _) (by decide) (by unfold maxLen;omega) (by omega) (by simp;omega) _ rfl ?_;intro g7 cp7 t7 hown7 hgrow7 hat7 hlt7;obtain ⟨⟨q1,q2⟩,S4⟩:=S2.put2 hgrow7 hown7 hat7;have hM7:=S2.mid2 hgrow7;have hS7:=HSS.out _ hM7.2 hM7.1;clear hgrow7 hown7 hat7 hlt7 hM7;refine hK.out _ _ hS7 (fun _=>?_);clear hK;refine wY (rs:=[19]) (fuel:=1) (by kernel_rfl) (by simp) ?_;refine rC rfl (fun K hK=>?_) rN;go_simp
      refine hK.out _ _ hS7 (fun _=>?_);clear hK;refine wY (rs:=[20]) (fuel:=0) (by kernel_rfl) (by simp) ?_;refine rC rfl (fun K hK=>?_) rN;go_simp
      refine hK.out _ _ (HSS.out _ S4.bel S4.c0) (fun _=>?_);clear hK;refine ⟨by kernel_rfl,?_⟩;go_wp2_with fail
      go_roundw
      case rel=>exact ⟨m+1,_,by omega,by go_num,by rw [HN];exact S4⟩
      case measure=>simp [intOf];omega
     ·go_simp
      refine hK.out _ _ hS (fun _=>?_);clear hK;refine wY (rs:=[1,16]) (fuel:=5) (by kernel_rfl) (by simp) ?_;refine rC rfl (fun K hK=>?_) (rC rfl (fun K hK=>?_) rN)
      ·go_simp
       refine hK.out _ _ hS (fun _=>?_);clear hK;refine wY (rs:=[16]) (fuel:=4) (by kernel_rfl) (by simp) ?_;refine rC rfl (fun K hK=>?_) rN;go_simp
       refine (CP.out _ ((bR _ _).drew)).mono ?_;rintro e t8 ⟨rfl,G8⟩;have S2:=S1.below (Below.trans ((bR _ _).drew) G8);have c1T:=S2.c1;have hbT:=S2.hb
       have c9T:∀ o,(t8.alloc o).cell? ⟨C,1,none⟩=some (.slice p2 m q2):=(fun o=>(cA _ _ _ hbT).trans c1T)
       have hS8:=HSS.out _ S2.bel S2.c0;refine hK.out _ _ hS8 (fun _=>?_);clear hK;refine wY (rs:=[17]) (fuel:=3) (by kernel_rfl) (by simp) ?_;refine rC rfl (fun K hK=>?_) rN;go_simp
       have SA:=S2.below ((bR _ _).alloc (nl _) (.cells #[.string n0,.int .i64 n1,.int .i64 n2,.int .i64 n3,.string n4] 47 (0,0)));have hS9:=HSS.out _ SA.bel SA.c0;refine hK.out _ _ hS9 (fun _=>?_);clear hK;refine wY (rs:=[18]) (fuel:=2) (by kernel_rfl) (by simp) ?_;refine rC rfl (fun K hK=>?_) rN;refine zsL _ rfl _ _ 31 rfl w4.heap.size 47 j0 (.agg #[.string ⟨#[]⟩,.int .i64 0,.int .i64 0,.int .i64 0,.string ⟨#[]⟩]) 5 56 U31 gi gz0 gz1 gz2 rfl (by decide) _ _ _ rfl (S2.o2.alloc _) ⟨t8.heap.size,0,none⟩ 1 1 [.string n0,.int .i64 n1,.int .i64 n2,.int .i64 n3,.string n4] rfl rfl (Zdw _ _ _ _ _ _ _) (one5 _ _ _ _ _) (by decide) (by unfold maxLen;omega) (by omega) (by simp;omega) _ rfl ?_;intro g7 cp7 t7 hown7 hgrow7 hat7 hlt7;obtain ⟨⟨q1,q2⟩,S4⟩:=S2.put2 hgrow7 hown7 hat7;have hM7:=S2.mid2 hgrow7;have hS7:=HSS.out _ hM7.2 hM7.1;clear hgrow7 hown7 hat7 hlt7 hM7;refine hK.out _ _ hS7 (fun _=>?_);clear hK;refine wY (rs:=[19]) (fuel:=1) (by kernel_rfl) (by simp) ?_;refine rC rfl (fun K hK=>?_) rN;go_simp
       refine hK.out _ _ hS7 (fun _=>?_);clear hK;refine wY (rs:=[20]) (fuel:=0) (by kernel_rfl) (by simp) ?_;refine rC rfl (fun K hK=>?_) rN;go_simp
       refine hK.out _ _ (HSS.out _ S4.bel S4.c0) (fun _=>?_);clear hK;refine ⟨by kernel_rfl,?_⟩;go_wp2_with fail
       go_roundw
       case rel=>exact ⟨m+1,_,by omega,by go_num,by rw [HN];exact S4⟩
       case measure=>simp [intOf];omega
      ·go_simp
       refine (CP.out _ ((bR _ _).drew)).mono ?_;rintro e t8 ⟨rfl,G8⟩;have S2:=S1.below (Below.trans ((bR _ _).drew) G8);have c1T:=S2.c1;have hbT:=S2.hb
       have c9T:∀ o,(t8.alloc o).cell? ⟨C,1,none⟩=some (.slice p2 m q2):=(fun o=>(cA _ _ _ hbT).trans c1T)
       have hS8:=HSS.out _ S2.bel S2.c0;refine hK.out _ _ hS8 (fun _=>?_);clear hK;refine wY (rs:=[1,17]) (fuel:=4) (by kernel_rfl) (by simp) ?_;refine rC rfl (fun K hK=>?_) (rC rfl (fun K hK=>?_) rN)
       ·go_simp
        refine hK.out _ _ hS8 (fun _=>?_);clear hK;refine wY (rs:=[17]) (fuel:=3) (by kernel_rfl) (by simp) ?_;refine rC rfl (fun K hK=>?_) rN;go_simp
        have SA:=S2.below ((bR _ _).alloc (nl _) (.cells #[.string n0,.int .i64 n1,.int .i64 n2,.int .i64 n3,.string n4] 47 (0,0)));have hS9:=HSS.out _ SA.bel SA.c0;refine hK.out _ _ hS9 (fun _=>?_);clear hK;refine wY (rs:=[18]) (fuel:=2) (by kernel_rfl) (by simp) ?_;refine rC rfl (fun K hK=>?_) rN;refine zsL _ rfl _ _ 31 rfl w4.heap.size 47 j0 (.agg #[.string ⟨#[]⟩,.int .i64 0,.int .i64 0,.int .i64 0,.string ⟨#[]⟩]) 5 56 U31 gi gz0 gz1 gz2 rfl (by decide) _ _ _ rfl (S2.o2.alloc _) ⟨t8.heap.size,0,none⟩ 1 1 [.string n0,.int .i64 n1,.int .i64 n2,.int .i64 n3,.string n4] rfl rfl (Zdw _ _ _ _ _ _ _) (one5 _ _ _ _ _) (by decide) (by unfold maxLen;omega) (by omega) (by simp;omega) _ rfl ?_;intro g7 cp7 t7 hown7 hgrow7 hat7 hlt7;obtain ⟨⟨q1,q2⟩,S4⟩:=S2.put2 hgrow7 hown7 hat7;have hM7:=S2.mid2 hgrow7;have hS7:=HSS.out _ hM7.2 hM7.1;clear hgrow7 hown7 hat7 hlt7 hM7;refine hK.out _ _ hS7 (fun _=>?_);clear hK;refine wY (rs:=[19]) (fuel:=1) (by kernel_rfl) (by simp) ?_;refine rC rfl (fun K hK=>?_) rN;go_simp
        refine hK.out _ _ hS7 (fun _=>?_);clear hK;refine wY (rs:=[20]) (fuel:=0) (by kernel_rfl) (by simp) ?_;refine rC rfl (fun K hK=>?_) rN;go_simp
        refine hK.out _ _ (HSS.out _ S4.bel S4.c0) (fun _=>?_);clear hK;refine ⟨by kernel_rfl,?_⟩;go_wp2_with fail
        go_roundw
        case rel=>exact ⟨m+1,_,by omega,by go_num,by rw [HN];exact S4⟩
        case measure=>simp [intOf];omega
       ·go_simp
        have SA:=S2.below ((bR _ _).alloc (nl _) (.cells #[.string n0,.int .i64 n1,.int .i64 n2,.int .i64 n3,.string n4] 47 (0,0)));have hS9:=HSS.out _ SA.bel SA.c0;refine hK.out _ _ hS9 (fun _=>?_);clear hK;refine wY (rs:=[1]) (fuel:=3) (by kernel_rfl) (by simp) ?_;refine rC rfl (fun K hK=>?_) rN;go_simp
        refine hK.out _ _ hS9 (fun _=>?_);clear hK;refine wY (rs:=[18]) (fuel:=2) (by kernel_rfl) (by simp) ?_;refine rC rfl (fun K hK=>?_) rN;refine zsL _ rfl _ _ 31 rfl w4.heap.size 47 j0 (.agg #[.string ⟨#[]⟩,.int .i64 0,.int .i64 0,.int .i64 0,.string ⟨#[]⟩]) 5 56 U31 gi gz0 gz1 gz2 rfl (by decide) _ _ _ rfl (S2.o2.alloc _) ⟨t8.heap.size,0,none⟩ 1 1 [.string n0,.int .i64 n1,.int .i64 n2,.int .i64 n3,.string n4] rfl rfl (Zdw _ _ _ _ _ _ _) (one5 _ _ _ _ _) (by decide) (by unfold maxLen;omega) (by omega) (by simp;omega) _ rfl ?_;intro g7 cp7 t7 hown7 hgrow7 hat7 hlt7;obtain ⟨⟨q1,q2⟩,S4⟩:=S2.put2 hgrow7 hown7 hat7;have hM7:=S2.mid2 hgrow7;have hS7:=HSS.out _ hM7.2 hM7.1;clear hgrow7 hown7 hat7 hlt7 hM7;refine hK.out _ _ hS7 (fun _=>?_);clear hK;refine wY (rs:=[19]) (fuel:=1) (by kernel_rfl) (by simp) ?_;refine rC rfl (fun K hK=>?_) rN;go_simp
        refine hK.out _ _ hS7 (fun _=>?_);clear hK;refine wY (rs:=[20]) (fuel:=0) (by kernel_rfl) (by simp) ?_;refine rC rfl (fun K hK=>?_) rN;go_simp
        refine hK.out _ _ (HSS.out _ S4.bel S4.c0) (fun _=>?_);clear hK;refine ⟨by kernel_rfl,?_⟩;go_wp2_with fail
        go_roundw
        case rel=>exact ⟨m+1,_,by omega,by go_num,by rw [HN];exact S4⟩
        case measure=>simp [intOf];omega
    ·obtain rfl:m=k:=by omega
     have e2:decide ((m:Int)<(m:Int))=false:=by simp
     have ne9:=S1.ne;have cc0:=S1.c0;have cc1:=S1.c1;have hC2:=S1.hb;obtain ⟨Bz,Oz1,Oz2,Rz0,Rz1⟩:=ZaY F4.b S1.o1 S1.o2 hzF F4.r0 F4.r1;have hfin:=hQ1.out _ _ _ Oz1 Oz2 ne9 Bz;obtain ⟨p2,q2,rfl,_⟩:=Zi S1.o2;clear S1 hQ1 Oz1 Oz2 Bz;go_wp2_with fail
     generalize (wr.setCell ⟨w.heap.size+1,0,none⟩ (.slice (some ⟨g2,0,none⟩) (D+1) cp2)).setCell ⟨w.heap.size+1,1,none⟩ (.slice p2 m q2)=wz at *;exact bodyPost_ret (v:=.tuple #[.agg #[.slice (some ⟨g2,0,none⟩) (D+1) cp2,.slice p2 m q2],.int .i64 0]) (by simp [results,Tryz.results16,go_sem,Rz0,Rz1]) rfl hfin
theorem Zfe (ad af:Option Addr) (cd cf:Nat) (a:Ar.A) (size:Int) (w:World) (h:ArV w ad af a) (hs:SaneA a) :
 Calls Tryz.prog 16 #[av ad cd af cf a,.int .i64 size] w fun e w'=>ArSaid w (Ar.retA a size) (Ar.retE a size) e w':=by
 by_cases hE:Ar.retE a size=0
 ·rw [Ar.ZhF hE,hE];exact Zhc ad af cd cf a size w h hs hE
 ·have e:Ar.retA a size=Ar.az:=by unfold Ar.retA;rw [if_neg hE]
  rw [e];by_cases hc:Ar.chk a=0
  ·by_cases hz:0<=size/\size<=256
   ·have h4:a.dicts.length=4:=by
     rcases Nat.lt_or_ge a.dicts.length 4 with h9 | h9
     ·exfalso;apply hE;unfold Ar.retE;rw [if_neg (fun h8=>h8 hc),if_pos hz,if_neg (by omega)]
     ·obtain ⟨m1,_,_⟩:=Ar.Zw.1 (Ar.Ze.1 hc).1;omega
    have e2:Ar.retE a size=2:=by unfold Ar.retE;rw [if_neg (fun h8=>h8 hc),if_pos hz,if_pos h4]
    rw [e2];exact ZeO ad af cd cf a size w h hs hc hz h4
   ·have e2:Ar.retE a size=3:=by unfold Ar.retE;rw [if_neg (fun h8=>h8 hc),if_neg hz]
    rw [e2];exact ZeM ad af cd cf a size w h hs hc hz
  ·have e2:Ar.retE a size=Ar.chk a:=by unfold Ar.retE;rw [if_pos hc]
   rw [e2];exact Zfs ad af cd cf a size w h hs hc
end Go.Proofs.YtbjbjbpgmojcbacGreat
