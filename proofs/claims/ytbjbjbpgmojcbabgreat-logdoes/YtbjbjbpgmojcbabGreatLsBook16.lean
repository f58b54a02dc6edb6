/- A part of the proof: what it leans on. -/
import Derived.Test.YtbjbjbpgmojcbabGreatLsBook15
set_option maxRecDepth 8000
set_option maxHeartbeats 8000000
namespace Go.Proofs.YtbjbjbpgmojcbabGreat
open Go.RowKit
namespace Ar
theorem Zmm (fs:List F) (f:F):∀ k,(rpK fs f k).1.length<=k+1/\((rpK fs f k).2=false->(rpK fs f k).1.length<=k)
 | 0=>by simp [rpK]
 | k+1=>by
  have ih:=Zmm fs f k;rw [rpK];by_cases h1:(rpK fs f k).2=false/\Tr.bl (fa fs k).name f.name=false
  ·rw [if_pos h1];have:=ih.2 h1.1;by_cases h2:(fa fs k).name=f.name
   ·rw [if_pos h2];simp;omega
   ·rw [if_neg h2];simp;omega
  ·rw [if_neg h1];by_cases h2:(fa fs k).name=f.name
   ·rw [if_pos h2];exact ⟨by omega,fun h=>by have:=ih.2 h;omega⟩
   ·rw [if_neg h2];simp only [List.length_append,List.length_cons,List.length_nil];exact ⟨by omega,fun h=>by have:=ih.2 h;omega⟩
end Ar
theorem ZkT (ad af:Option Addr) (cd cf:Nat) (a:Ar.A) (name text:ByteArray) (dict:Int) (w:World) (h:ArV w ad af a) (hs:SaneA a) (hn:name.size<=140737488355328) (hc:Ar.chk a=0) (hm:Ar.isNm name=true) (hd:Ar.has a.dicts dict=true) (hl:text.size<=512)
 (R:Ar.A) (E:Int) (hR:(if 12<(Ar.Zfi a.files (Ar.pk a.dicts name text dict)).length then (Ar.az,(2:Int)) else (⟨a.dicts,Ar.Zfi a.files (Ar.pk a.dicts name text dict)⟩,0))=(R,E)) :
 Calls Tryz.prog 15 #[av ad cd af cf a,.string name,.string text,.int .i64 dict] w fun e w'=>ArSaid w R E e w':=by
 obtain ⟨i0,hi,hz0,hz1,hz2⟩:=info_parts (P:=Tryz.prog) (e:=9) (z:=.string ⟨#[]⟩) (size:=1) (bytes:=16) (by kernel_rfl);obtain ⟨j0,gi,gz0,gz1,gz2⟩:=info_parts (P:=Tryz.prog) (e:=46) (z:=.agg #[.string ⟨#[]⟩,.int .i64 0,.int .i64 0,.int .i64 0,.string ⟨#[]⟩]) (size:=5) (bytes:=56) (by kernel_rfl);obtain ⟨m1,m2,m3⟩:=Ar.Zw.1 (Ar.Zd.1 hc).1;have C1:Hid (∀ w',Below w.heap.size w w'->Calls Tryz.prog 19 #[av ad cd af cf a] w' fun e w2=>e=.returned (.int .i64 (Ar.chk a))/\Below w'.heap.size w' w2):=fun w' h9=>Zs ad af cd cf a w' (h.below h9) hs
 have C2:Hid (∀ w',Calls Tryz.prog 56 #[.string name] w' fun e w2=>e=.returned (.bool (Ar.isNm name))/\w2=w'):=fun w'=>ZaE name w' hn
 have C3:Hid (∀ w',Calls Tryz.prog 57 #[.int .i64 dict,.int .i64 0,.int .i64 (a.dicts.length:Nat)] w' fun e w2=>e=.returned (.bool (Ar.has a.dicts dict))/\w2=w'):=fun w'=>ZJ dict 0 (a.dicts.length:Nat) w'
 have C4:Hid (∀ w',Below w.heap.size w w'->Calls Tryz.prog 58 #[av ad cd af cf a,.string name,.string text,.int .i64 dict] w' fun e w2=>e=.returned (fv (Ar.pk a.dicts name text dict))/\Below w'.heap.size w' w2):=fun w' h9=>Zfq ad af cd cf a name text dict w' (h.ds.below h9) hs.nd hd (Ar.ZaM (Ar.Zd.1 hc).1 _) hl
 have HDn:Hid (∀ w',Below w.heap.size w w'->(a.dicts.length=0\/∃ b,ad=some b/\∀ j u,(a.dicts.map Value.string)[j]?=some u->w'.cell? (b.add j)=some u)):=fun w' h9=>(h.ds.below h9).news
 have HFl:Hid (∀ k,k<a.files.length->∃ b off,af=some ⟨b,off,none⟩/\b<w.heap.size/\Hid (∀ w',Below w.heap.size w w'->w'.cell? ⟨b,off+k*5,none⟩=some (.string (Ar.fa a.files k).name)/\w'.cell? ⟨b,off+k*5+1,none⟩=some (.int .i64 (Ar.fa a.files k).dict)/\w'.cell? ⟨b,off+k*5+2,none⟩=some (.int .i64 (Ar.fa a.files k).size)/\w'.cell? ⟨b,off+k*5+3,none⟩=some (.int .i64 (Ar.fa a.files k).sum)/\w'.cell? ⟨b,off+k*5+4,none⟩=some (.string (Ar.fa a.files k).blk))):=fun k hk=>by
  obtain ⟨b,off,h1,h2,h3⟩:=h.fs.at hk;refine ⟨b,off,h1,h2,fun w' h9=>?_⟩;obtain ⟨k0,k1,k2,k3,k4⟩:=h3.below h9 h2;exact ⟨k0,k1,k2,k3,k4⟩
 have HDl:Hid ((a.dicts.map Value.string).length=a.dicts.length*1):=by show _=_;simp
 have HD1:Hid (∀ u ∈ a.dicts.map Value.string,u.oneCell'=true):=fun u hu=>by obtain ⟨x,_,rfl⟩:=List.mem_map.1 hu;rfl
 rw [hc] at C1;rw [hm] at C2;rw [hd] at C3;have d1:decide ((512:Int)<(text.size:Int))=false:=dF (by omega);have d1':decide (512<text.size)=false:=dF (by omega)
 have hQ0:Hid (12<(Ar.Zfi a.files (Ar.pk a.dicts name text dict)).length->∀ w',Below w.heap.size w w'->ArSaid w R E (.returned (.tuple #[.agg #[.slice none 0 0,.slice none 0 0],.int .i64 2])) w'):=fun h9 w' h8=>by
  rw [if_pos h9] at hR;simp only [Prod.mk.injEq] at hR;obtain ⟨rfl,rfl⟩:=hR;exact Zy h8
 have hQ1:Hid (¬ 12<(Ar.Zfi a.files (Ar.pk a.dicts name text dict)).length->∀ v1 v2 w',w'.ownsRow w.heap.size 9 1 v1 a.dicts.length (a.dicts.map Value.string)->w'.ownsRow w.heap.size 46 5 v2 (Ar.Zfi a.files (Ar.pk a.dicts name text dict)).length (fcs (Ar.Zfi a.files (Ar.pk a.dicts name text dict)))->(∀ j,v1.ownBlock=some j->v2.ownBlock ≠ some j)->Below w.heap.size w w'->ArSaid w R E (.returned (.tuple #[.agg #[v1,v2],.int .i64 0])) w'):=fun h9 v1 v2 w' k1 k2 k3 k4=>by
  rw [if_neg h9] at hR;simp only [Prod.mk.injEq] at hR;obtain ⟨rfl,rfl⟩:=hR;exact ⟨v1,v2,rfl,⟨k1,k2,k3⟩,k4⟩
 generalize ArSaid w R E=Q at *;clear hR hc hm hd hn h hs m3;have hfn:(Ar.pk a.dicts name text dict).name=name:=rfl;generalize Ar.pk a.dicts name text dict=f at *
 have HRS:Hid (∀ k d b e,(Ar.rpK a.files f k).2=d->Tr.bl (Ar.fa a.files k).name name=b->decide ((Ar.fa a.files k).name=name)=e->Ar.rpK a.files f (k+1)=if d=false/\b=false then (if e=true then ((Ar.rpK a.files f k).1++[f],true) else (((Ar.rpK a.files f k).1++[f])++[Ar.fa a.files k],true)) else (if e=true then Ar.rpK a.files f k else ((Ar.rpK a.files f k).1++[Ar.fa a.files k],(Ar.rpK a.files f k).2))):=fun k d b e h1 h2 h3=>by
  rw [Ar.rpK,hfn,h1,h2];by_cases hq:(Ar.fa a.files k).name=name
  ·rw [decide_eq_true hq] at h3;subst h3;rw [if_pos hq];rfl
  ·rw [decide_eq_false hq] at h3;subst h3;rw [if_neg hq];by_cases hz:d=false/\b=false
   ·rw [if_pos hz,if_pos hz];rfl
   ·rw [if_neg hz,if_neg hz,h1];rfl
 have HRE:Hid (Ar.Zfi a.files f=if (Ar.rpK a.files f a.files.length).2=true then (Ar.rpK a.files f a.files.length).1 else (Ar.rpK a.files f a.files.length).1++[f]):=rfl;have HRL:Hid (∀ k,(Ar.rpK a.files f k).1.length<=k+1):=fun k=>(Ar.Zmm a.files f k).1
 have HR0:Hid (Ar.rpK a.files f 0=([],false)):=rfl;generalize Ar.rpK a.files f=rp at *;generalize Ar.Zfi a.files f=RE at *;have HFc:Hid (∀ k,fcs [Ar.fa a.files k]=[.string (Ar.fa a.files k).name,.int .i64 (Ar.fa a.files k).dict,.int .i64 (Ar.fa a.files k).size,.int .i64 (Ar.fa a.files k).sum,.string (Ar.fa a.files k).blk]):=fun k=>rfl
 have HFf:Hid (fcs [f]=[.string f.name,.int .i64 f.dict,.int .i64 f.size,.int .i64 f.sum,.string f.blk]):=rfl;clear hfn;unfold av at C1 C4 |-
 unfold fv at C4;generalize f.name=g0 at *;generalize f.dict=g1 at *;generalize f.size=g2 at *;generalize f.sum=g3 at *;generalize f.blk=g4 at *
 obtain ⟨D,hDD⟩:∃ D,a.dicts.length=D:=⟨_,rfl⟩
 obtain ⟨N,hNN⟩:∃ N,a.files.length=N:=⟨_,rfl⟩
 simp only [hDD,hNN] at C1 C3 C4 HDn HFl HDl hQ1 HRE m1 m2 |-
 clear hDD hNN;generalize a.dicts.map Value.string=ds at *;generalize Ar.fa a.files=fa at *;have hDi:(D:Int)<=4:=by omega
 have hNi:(N:Int)<=12:=by omega
 go_enter Tryz.func15,Tryz.ntmps15
 go_wp2_with fail
 refine (C1.out _ (Fr.start w _ _).b).mono ?_;rintro e w1 ⟨rfl,G1⟩;have F1:=(Fr.start w _ _).next G1;clear G1 C1;obtain ⟨b,a0,a1,r0,r1,z0,z1,hz⟩:=id F1;go_wp2_with fail
 refine (C2.out _).mono ?_;rintro e w2 ⟨rfl,rfl⟩;clear C2;go_wp2_with fail
 refine (C3.out _).mono ?_;rintro e w3 ⟨rfl,rfl⟩;clear C3;have hz9:w.heap.size<w3.heap.size:=by omega
 have O0:=ZcO w3 w3.heap.size 9 1 (nl _);have hD2:=HDn.out _ (F1.b.alloc (by have:=F1.b.size;omega) (.cells #[] 9 (0,0)));have hds1:=HDl.out;have hds2:=HD1.out
 go_wp2_with (first
  | (at_builtin;refine Zac rfl _ _ 22 rfl w3.heap.size 9 i0 (.string ⟨#[]⟩) 1 16 U22 hi hz0 hz1 hz2 rfl (by decide) w3.heap.size 0 0 [] rfl O0 ad D cd ds rfl hds1 hD2 hds2 (by unfold maxLen;omega) (by omega) (by simp) _ rfl ?_;intro g cp w5 hown5 hgrow5 hat5)
  | fail)
 have BX:Below w3.heap.size w3 w5:=((bR _ _).alloc (nl _) _).grown hgrow5 (by simp) (fun j hj=>by simp at hj;omega);simp only [Nat.zero_add,List.nil_append] at hown5 |-
 have S0:=CpS.new1 BX BX.size hown5;clear O0 hD2 hds1 hds2 hgrow5 hat5 hown5 HDn HDl HD1 BX a0 a1 r0 r1 z0 z1 b;generalize (w5.alloc (.cells #[.slice (some ⟨g,0,none⟩) D cp,.slice none 0 0] 25 (0,0)))=w6 at *;generalize w5.heap.size=C at *;go_loopw [12,13] (fun d i wr=>∃ (k:Nat) (v2:Value),k<=N/\d=.bool (rp k).2/\i=.int .i64 k/\CpS w3 wr C w3.heap.size (.slice (some ⟨g,0,none⟩) D cp) v2 D (rp k).1.length ds (fcs (rp k).1)) (fun _ i _=>N - (intOf i).toNat)
 case atStart=>exact ⟨0,_,by omega,by rw [HR0.out],rfl,by rw [HR0.out];exact S0⟩
 case round =>
  obtain ⟨k,v2,hk2,rfl,rfl,S1⟩:=hrel;have F2:=F1.keep S1.bel hz;obtain ⟨B2,a0,a1,r0,r1,z0,z1,hz2⟩:=id F2;by_cases hlt:k<N
  ·have e1:decide ((k:Int)<(N:Int))=true:=zdT (by omega);have e1':decide (k<N)=true:=zdT hlt;have hki:(k:Int)<(N:Int):=by omega
   obtain ⟨b,off,rfl,hbw,HFw⟩:=HFl.out k hlt;obtain ⟨c0,c1,c2,c3,c4⟩:=HFw.out wr B2;have hbl:b<wr.heap.size:=nT hbw B2.size;have HRk:=HRS.out k;have HFk:=HFc.out k;have HLk:=HRL.out k;have hbe:=ZdM (fa k).name name;by_cases hnm:(fa k).name=name
   ·rw [decide_eq_true hnm] at hbe
    cases hdn:(rp k).2 with
    | true =>
     have HN:Hid (rp (k+1)=rp k):=by
      show _=_;rw [HRk true _ true hdn rfl (decide_eq_true hnm)];rfl
     clear HRk;generalize (fa k).name=f0 at *;generalize (fa k).dict=f1 at *;generalize (fa k).size=f2 at *;generalize (fa k).sum=f3 at *;generalize (fa k).blk=f4 at *;subst hnm;go_wp2_with fail
     go_roundw
     case rel=>exact ⟨k+1,_,by omega,by rw [HN.out,hdn],by go_num,by rw [HN.out];exact S1⟩
     case measure=>simp [intOf];omega
    | false =>
     have hbl1:Tr.bl (fa k).name name=false:=by rw [hnm];exact Tr.ZcJ _
     have HN:Hid (rp (k+1)=((rp k).1++[f],true)):=by
      show _=_;rw [HRk false false true hdn hbl1 (decide_eq_true hnm)];rfl
     unfold Tr.bl at hbl1;clear HRk hdn;generalize (rp k).1=L at *;have c1S:=S1.c1;have f1S:=S1.f1;have hbC:=S1.hb;have hlC:=S1.hC;obtain ⟨p2,q2,rfl,_⟩:=Zk S1.o2;generalize (fa k).name=f0 at *;generalize (fa k).dict=f1 at *;generalize (fa k).size=f2 at *;generalize (fa k).sum=f3 at *;generalize (fa k).blk=f4 at *;subst hnm;go_wp2_with fail
     go_region_law (first
      | (refine zsL _ rfl _ _ 23 rfl w3.heap.size 46 j0 (.agg #[.string ⟨#[]⟩,.int .i64 0,.int .i64 0,.int .i64 0,.string ⟨#[]⟩]) 5 56 U23 gi gz0 gz1 gz2 rfl (by decide) _ _ _ rfl (S2.o2.alloc _) ⟨w8.heap.size,0,none⟩ 1 1 [.string g0,.int .i64 g1,.int .i64 g2,.int .i64 g3,.string g4] rfl rfl (ZdR _ _ _ _ _ _ _) (one5 _ _ _ _ _) (by decide) (by unfold maxLen;omega) (by omega) (by simp;omega) _ rfl ?_;intro g7 cp7 w7 hown7 hgrow7 hat7 hlt7;obtain ⟨⟨q1,q2⟩,S4⟩:=S2.put2 hgrow7 hown7 hat7;clear hgrow7 hown7 hat7 hlt7)
      | (go_simp;go_at_call 58;refine (C4.out _ B2.drew).mono ?_;rintro e w8 ⟨rfl,G8⟩;have S2:=S1.below (Below.trans ((bR _ _).drew) G8);have c1T:=S2.c1;have hbT:=S2.hb;have c9T:∀ o,(w8.alloc o).cell? ⟨C,1,none⟩=some (.slice p2 L.length q2):=(fun o=>(cA _ _ _ hbT).trans c1T)))
     all_goals
      have F4:=F1.keep S4.bel hz;have c1U:=S4.c1;have f1U:=S4.f1;have hbU:=S4.hb;have hlU:=S4.hC;have S9:=S4.below ((bR _ _).drew);obtain ⟨B4,a0',a1',_,_,_,_,hz4⟩:=id F4;obtain ⟨c0',c1',c2',c3',c4'⟩:=HFw.out _ B4;have hbl':=nT hbw B4.size;clear c0 c1 c2 c3 c4 a0 a1 r0 r1 z0 z1 F2 F4 hz2 c1S f1S hbC hlC S1 S2 c1T hbT c9T G8 q1 q2;generalize (w7.setCell ⟨C,1,none⟩ (.slice (some ⟨g7,0,none⟩) (L.length+1) cp7))=wS at *;go_wp2_with fail
      go_roundw
      case rel=>exact ⟨k+1,_,by omega,by rw [HN.out],by go_num,by rw [HN.out];simp only [List.length_append,List.length_cons,List.length_nil,Zz,HFf.out];exact S4⟩
      case measure=>simp [intOf];omega
   ·rw [decide_eq_false hnm] at hbe
    cases hdn:(rp k).2 with
    | true =>
     have HN:Hid (rp (k+1)=((rp k).1++[fa k],true)):=by
      show _=_;rw [HRk true _ false hdn rfl (decide_eq_false hnm),hdn];rfl
     clear HRk hdn hnm;generalize (rp k).1=L at *;have c1S:=S1.c1;have f1S:=S1.f1;have hbC:=S1.hb;have hlC:=S1.hC;obtain ⟨p2,q2,rfl,_⟩:=Zk S1.o2;have S9:=S1.below ((bR _ _).drew);generalize (fa k).name=f0 at *;generalize (fa k).dict=f1 at *;generalize (fa k).size=f2 at *;generalize (fa k).sum=f3 at *;generalize (fa k).blk=f4 at *;go_wp2_with fail
     go_region_law (first
      | (refine zsL _ rfl _ _ 23 rfl w3.heap.size 46 j0 (.agg #[.string ⟨#[]⟩,.int .i64 0,.int .i64 0,.int .i64 0,.string ⟨#[]⟩]) 5 56 U23 gi gz0 gz1 gz2 rfl (by decide) _ _ _ rfl (S9.o2.alloc _) ⟨wr.drew.heap.size,0,none⟩ 1 1 [.string f0,.int .i64 f1,.int .i64 f2,.int .i64 f3,.string f4] rfl rfl (ZdR _ _ _ _ _ _ _) (one5 _ _ _ _ _) (by decide) (by unfold maxLen;omega) (by omega) (by simp;omega) _ rfl ?_;intro g9 cp9 w9 hown7 hgrow7 hat7 hlt7;obtain ⟨⟨q1,q2⟩,S10⟩:=S9.put2 hgrow7 hown7 hat7;clear hgrow7 hown7 hat7 hlt7))
     all_goals
      go_wp2_with fail
      go_roundw
      case rel=>exact ⟨k+1,_,by omega,by rw [HN.out],by go_num,by rw [HN.out];simp only [List.length_append,List.length_cons,List.length_nil,Zz,HFk];exact S10⟩
      case measure=>simp [intOf];omega
    | false =>
     cases hbl1:Tr.bl (fa k).name name with
     | true =>
      have HN:Hid (rp (k+1)=((rp k).1++[fa k],false)):=by
       show _=_;rw [HRk false true false hdn hbl1 (decide_eq_false hnm),hdn];rfl
      unfold Tr.bl at hbl1;clear HRk hdn hnm;generalize (rp k).1=L at *;have c1S:=S1.c1;have f1S:=S1.f1;have hbC:=S1.hb;have hlC:=S1.hC;obtain ⟨p2,q2,rfl,_⟩:=Zk S1.o2;have S9:=S1.below ((bR _ _).drew);generalize (fa k).name=f0 at *;generalize (fa k).dict=f1 at *;generalize (fa k).size=f2 at *;generalize (fa k).sum=f3 at *;generalize (fa k).blk=f4 at *;go_wp2_with fail
      go_region_law (first
       | (refine zsL _ rfl _ _ 23 rfl w3.heap.size 46 j0 (.agg #[.string ⟨#[]⟩,.int .i64 0,.int .i64 0,.int .i64 0,.string ⟨#[]⟩]) 5 56 U23 gi gz0 gz1 gz2 rfl (by decide) _ _ _ rfl (S9.o2.alloc _) ⟨wr.drew.heap.size,0,none⟩ 1 1 [.string f0,.int .i64 f1,.int .i64 f2,.int .i64 f3,.string f4] rfl rfl (ZdR _ _ _ _ _ _ _) (one5 _ _ _ _ _) (by decide) (by unfold maxLen;omega) (by omega) (by simp;omega) _ rfl ?_;intro g9 cp9 w9 hown7 hgrow7 hat7 hlt7;obtain ⟨⟨q1,q2⟩,S10⟩:=S9.put2 hgrow7 hown7 hat7;clear hgrow7 hown7 hat7 hlt7))
      all_goals
       go_wp2_with fail
       go_roundw
       case rel=>exact ⟨k+1,_,by omega,by rw [HN.out],by go_num,by rw [HN.out];simp only [List.length_append,List.length_cons,List.length_nil,Zz,HFk];exact S10⟩
       case measure=>simp [intOf];omega
     | false =>
      have HN:Hid (rp (k+1)=((rp k).1++[f]++[fa k],true)):=by
       show _=_;rw [HRk false false false hdn hbl1 (decide_eq_false hnm)];rfl
      unfold Tr.bl at hbl1;clear HRk hdn hnm;generalize (rp k).1=L at *;have c1S:=S1.c1;have f1S:=S1.f1;have hbC:=S1.hb;have hlC:=S1.hC;obtain ⟨p2,q2,rfl,_⟩:=Zk S1.o2;generalize (fa k).name=f0 at *;generalize (fa k).dict=f1 at *;generalize (fa k).size=f2 at *;generalize (fa k).sum=f3 at *;generalize (fa k).blk=f4 at *;go_wp2_with fail
      go_region_law (first
       | (refine zsL _ rfl _ _ 23 rfl w3.heap.size 46 j0 (.agg #[.string ⟨#[]⟩,.int .i64 0,.int .i64 0,.int .i64 0,.string ⟨#[]⟩]) 5 56 U23 gi gz0 gz1 gz2 rfl (by decide) _ _ _ rfl (S2.o2.alloc _) ⟨w8.heap.size,0,none⟩ 1 1 [.string g0,.int .i64 g1,.int .i64 g2,.int .i64 g3,.string g4] rfl rfl (ZdR _ _ _ _ _ _ _) (one5 _ _ _ _ _) (by decide) (by unfold maxLen;omega) (by omega) (by simp;omega) _ rfl ?_;intro g7 cp7 w7 hown7 hgrow7 hat7 hlt7;obtain ⟨⟨q1,q2⟩,S4⟩:=S2.put2 hgrow7 hown7 hat7;clear hgrow7 hown7 hat7 hlt7)
       | (go_simp;go_at_call 58;refine (C4.out _ B2.drew).mono ?_;rintro e w8 ⟨rfl,G8⟩;have S2:=S1.below (Below.trans ((bR _ _).drew) G8);have c1T:=S2.c1;have hbT:=S2.hb;have c9T:∀ o,(w8.alloc o).cell? ⟨C,1,none⟩=some (.slice p2 L.length q2):=(fun o=>(cA _ _ _ hbT).trans c1T)))
      all_goals
       have F4:=F1.keep S4.bel hz;have c1U:=S4.c1;have f1U:=S4.f1;have hbU:=S4.hb;have hlU:=S4.hC;have S9:=S4.below ((bR _ _).drew);obtain ⟨B4,a0',a1',_,_,_,_,hz4⟩:=id F4;obtain ⟨c0',c1',c2',c3',c4'⟩:=HFw.out _ B4;have hbl':=nT hbw B4.size;clear c0 c1 c2 c3 c4 a0 a1 r0 r1 z0 z1 F2 F4 hz2 c1S f1S hbC hlC S1 S2 c1T hbT c9T G8 q1 q2;generalize (w7.setCell ⟨C,1,none⟩ (.slice (some ⟨g7,0,none⟩) (L.length+1) cp7))=wS at *;go_wp2_with fail
       go_region_law (first
        | (refine zsL _ rfl _ _ 23 rfl w3.heap.size 46 j0 (.agg #[.string ⟨#[]⟩,.int .i64 0,.int .i64 0,.int .i64 0,.string ⟨#[]⟩]) 5 56 U23 gi gz0 gz1 gz2 rfl (by decide) _ _ _ rfl (S9.o2.alloc _) ⟨wS.drew.heap.size,0,none⟩ 1 1 [.string f0,.int .i64 f1,.int .i64 f2,.int .i64 f3,.string f4] rfl rfl (ZdR _ _ _ _ _ _ _) (one5 _ _ _ _ _) (by decide) (by unfold maxLen;omega) (by omega) (by simp;omega) _ rfl ?_;intro g9 cp9 w9 hown7 hgrow7 hat7 hlt7;obtain ⟨⟨q1,q2⟩,S10⟩:=S9.put2 hgrow7 hown7 hat7;clear hgrow7 hown7 hat7 hlt7))
       all_goals
        go_wp2_with fail
        go_roundw
        case rel=>exact ⟨k+1,_,by omega,by rw [HN.out],by go_num,by rw [HN.out];simp only [List.length_append,List.length_cons,List.length_nil,Zz,HFk,HFf.out];exact S10⟩
        case measure=>simp [intOf];omega
  ·obtain rfl:k=N:=by omega
   have e1:decide ((k:Int)<(k:Int))=false:=by simp
   cases hdn:(rp k).2 with
   | true =>
    have hE:RE=(rp k).1:=by rw [HRE.out,if_pos hdn]
    rw [<-hE] at S1;clear hdn HRE hE HRS HRL HR0 HFl HFc;obtain ⟨p2,q2,rfl,_⟩:=Zk S1.o2;have ne9:=S1.ne;have cc0:=S1.c0;have cc1:=S1.c1;have hC2:=S1.hb;by_cases hq:12<RE.length
    ·have hfin:=hQ0.out hq _ F2.b;have e2:decide ((12:Int)<(RE.length:Int))=true:=zdT (by omega);have e2':decide (12<RE.length)=true:=zdT hq;generalize RE.length=n at *;clear S1 hQ0 hQ1;go_wp2_with fail
     rw [F2.zero];exact bodyPost_ret (v:=.tuple #[.agg #[.slice none 0 0,.slice none 0 0],.int .i64 2]) (by simp [results,Tryz.results15,go_sem,F2.r0,F2.r1]) rfl hfin
    ·obtain ⟨Bz,Oz1,Oz2,Rz0,Rz1⟩:=Zbb F2.b S1.o1 S1.o2 hz F2.r0 F2.r1;have hfin:=hQ1.out hq _ _ _ Oz1 Oz2 ne9 Bz;have e2:decide ((12:Int)<(RE.length:Int))=false:=dF (by omega);have e2':decide (12<RE.length)=false:=dF hq;have hn12:RE.length<=12:=by omega
     generalize RE.length=n at *;clear S1 hQ0 hQ1 Oz1 Oz2 Bz hq;go_wp2_with fail
     generalize (wr.setCell ⟨w.heap.size+1,0,none⟩ (.slice (some ⟨g,0,none⟩) D cp)).setCell ⟨w.heap.size+1,1,none⟩ (.slice p2 n q2)=wz at *;exact bodyPost_ret (v:=.tuple #[.agg #[.slice (some ⟨g,0,none⟩) D cp,.slice p2 n q2],.int .i64 0]) (by simp [results,Tryz.results15,go_sem,Rz0,Rz1]) rfl hfin
   | false =>
    have hE:RE=(rp k).1++[f]:=by rw [HRE.out,if_neg (by rw [hdn];decide)]
    have HLk:=HRL.out k;generalize (rp k).1=L at *;have c1S:=S1.c1;have f1S:=S1.f1;have hbC:=S1.hb;have hlC:=S1.hC;obtain ⟨p2,q2,rfl,_⟩:=Zk S1.o2
    have HE:Hid (fcs RE=fcs L++[.string g0,.int .i64 g1,.int .i64 g2,.int .i64 g3,.string g4]/\RE.length=L.length+1):=⟨by rw [hE,Zz,HFf.out],by rw [hE,List.length_append];rfl⟩
    clear hdn HRE hE HRS HRL HR0 HFl HFc HFf;go_wp2_with fail
    go_region_law (first
     | (refine zsL _ rfl _ _ 23 rfl w3.heap.size 46 j0 (.agg #[.string ⟨#[]⟩,.int .i64 0,.int .i64 0,.int .i64 0,.string ⟨#[]⟩]) 5 56 U23 gi gz0 gz1 gz2 rfl (by decide) _ _ _ rfl (S2.o2.alloc _) ⟨w8.heap.size,0,none⟩ 1 1 [.string g0,.int .i64 g1,.int .i64 g2,.int .i64 g3,.string g4] rfl rfl (ZdR _ _ _ _ _ _ _) (one5 _ _ _ _ _) (by decide) (by unfold maxLen;omega) (by omega) (by simp;omega) _ rfl ?_;intro g7 cp7 w7 hown7 hgrow7 hat7 hlt7;obtain ⟨⟨q1,q2⟩,S4⟩:=S2.put2 hgrow7 hown7 hat7;clear hgrow7 hown7 hat7 hlt7)
     | (go_simp;go_at_call 58;refine (C4.out _ B2.drew).mono ?_;rintro e w8 ⟨rfl,G8⟩;have S2:=S1.below (Below.trans ((bR _ _).drew) G8);have c1T:=S2.c1;have hbT:=S2.hb;have c9T:∀ o,(w8.alloc o).cell? ⟨C,1,none⟩=some (.slice p2 L.length q2):=(fun o=>(cA _ _ _ hbT).trans c1T)))
    all_goals
     have F4:=F1.keep S4.bel hz;rw [<-HE.out.1,<-HE.out.2] at S4;rw [<-HE.out.2] at F4;clear a0 a1 r0 r1 z0 z1 F2 hz2 c1S f1S hbC hlC S1 S2 c1T hbT c9T G8 q1 q2;rw [<-HE.out.2];generalize (w7.setCell ⟨C,1,none⟩ (.slice (some ⟨g7,0,none⟩) RE.length cp7))=wS at *;obtain ⟨B4,a0,a1,r0,r1,z0,z1,hz2⟩:=id F4;have ne9:=S4.ne;have cc0:=S4.c0;have cc1:=S4.c1;have hC2:=S4.hb;by_cases hq:12<RE.length
     ·have hfin:=hQ0.out hq _ F4.b;have e2:decide ((12:Int)<(RE.length:Int))=true:=zdT (by omega);have e2':decide (12<RE.length)=true:=zdT hq;generalize RE.length=n at *;clear S4 hQ0 hQ1;go_wp2_with fail
      rw [F4.zero];exact bodyPost_ret (v:=.tuple #[.agg #[.slice none 0 0,.slice none 0 0],.int .i64 2]) (by simp [results,Tryz.results15,go_sem,F4.r0,F4.r1]) rfl hfin
     ·obtain ⟨Bz,Oz1,Oz2,Rz0,Rz1⟩:=Zbb F4.b S4.o1 S4.o2 hz F4.r0 F4.r1;have hfin:=hQ1.out hq _ _ _ Oz1 Oz2 ne9 Bz;have e2:decide ((12:Int)<(RE.length:Int))=false:=dF (by omega);have e2':decide (12<RE.length)=false:=dF hq;have hn12:RE.length<=12:=by omega
      generalize RE.length=n at *;clear S4 hQ0 hQ1 Oz1 Oz2 Bz hq;go_wp2_with fail
      generalize (wS.setCell ⟨w.heap.size+1,0,none⟩ (.slice (some ⟨g,0,none⟩) D cp)).setCell ⟨w.heap.size+1,1,none⟩ (.slice (some ⟨g7,0,none⟩) n cp7)=wz at *;exact bodyPost_ret (v:=.tuple #[.agg #[.slice (some ⟨g,0,none⟩) D cp,.slice (some ⟨g7,0,none⟩) n cp7],.int .i64 0]) (by simp [results,Tryz.results15,go_sem,Rz0,Rz1]) rfl hfin
theorem ZnS (ad af:Option Addr) (cd cf:Nat) (a:Ar.A) (name text:ByteArray) (dict:Int) (w:World) (h:ArV w ad af a) (hs:SaneA a) (hn:name.size<=140737488355328) :
 Calls Tryz.prog 15 #[av ad cd af cf a,.string name,.string text,.int .i64 dict] w fun e w'=>ArSaid w (Ar.putA a name text dict) (Ar.putE a name text dict) e w':=by
 have bad:∀ E:Int,E ≠ 0->Ar.putE a name text dict=E->Ar.putA a name text dict=Ar.az:=fun E h1 h2=>by unfold Ar.putA;rw [h2,if_neg h1]
 by_cases hc:Ar.chk a=0
 ·cases hm:Ar.isNm name with
  | false =>
   have e:Ar.putE a name text dict=4:=by unfold Ar.putE;rw [if_neg (fun h9=>h9 hc),if_pos hm]
   rw [bad 4 (by decide) e,e];exact ZpV ad af cd cf a name text dict w h hs hn hc hm
  | true =>
   cases hd:Ar.has a.dicts dict with
   | false =>
    have e:Ar.putE a name text dict=3:=by unfold Ar.putE;rw [if_neg (fun h9=>h9 hc),if_neg (by rw [hm];decide),if_pos hd]
    rw [bad 3 (by decide) e,e];exact Zlj ad af cd cf a name text dict w h hs hn hc hm hd
   | true =>
    by_cases hl:512<text.size
    ·have e:Ar.putE a name text dict=2:=by unfold Ar.putE;rw [if_neg (fun h9=>h9 hc),if_neg (by rw [hm];decide),if_neg (by rw [hd];decide),if_pos (.inl hl)]
     rw [bad 2 (by decide) e,e];exact ZkX ad af cd cf a name text dict w h hs hn hc hm hd hl
    ·obtain ⟨m1,m2,m3⟩:=Ar.Zw.1 (Ar.Zd.1 hc).1;have hrp:=Ar.ZoY (Ar.Zbc hc) (Ar.pk a.dicts name text dict);have hlen:=Ar.Zsn a.files (Ar.pk a.dicts name text dict);have hnm:(Ar.pk a.dicts name text dict).name=name:=rfl;rw [hnm] at hlen;refine ZkT ad af cd cf a name text dict w h hs hn hc hm hd (by omega) _ _ ?_;rw [hrp]
     cases ht:Ar.ZK a.files name with
     | true =>
      rw [ht,if_pos rfl] at hlen
      have e:Ar.putE a name text dict=0:=by
       unfold Ar.putE;rw [if_neg (fun h9=>h9 hc),if_neg (by rw [hm];decide),if_neg (by rw [hd];decide),if_neg (by rw [ht];rintro (h9 | ⟨h9,_⟩);exact hl h9;cases h9)]
      rw [if_neg (by omega),Ar.ZmW e,e]
     | false =>
      rw [ht,if_neg (by decide)] at hlen;by_cases h12:a.files.length=12
      ·have e:Ar.putE a name text dict=2:=by
        unfold Ar.putE;rw [if_neg (fun h9=>h9 hc),if_neg (by rw [hm];decide),if_neg (by rw [hd];decide),if_pos (.inr ⟨ht,h12⟩)]
       rw [if_pos (by omega),bad 2 (by decide) e,e]
      ·have e:Ar.putE a name text dict=0:=by
        unfold Ar.putE;rw [if_neg (fun h9=>h9 hc),if_neg (by rw [hm];decide),if_neg (by rw [hd];decide),if_neg (by rintro (h9 | ⟨_,h9⟩);exact hl h9;exact h12 h9)]
       rw [if_neg (by omega),Ar.ZmW e,e]
 ·have e:Ar.putE a name text dict=Ar.chk a:=by unfold Ar.putE;rw [if_pos hc]
  rw [bad _ hc e,e];exact ZnY ad af cd cf a name text dict w h hs hc
theorem Zfv (ad af:Option Addr) (cd cf:Nat) (a:Ar.A) (name:ByteArray) (w:World) (h:FlSl w af a.files) (hn:a.files.length<=12) :
 Calls Tryz.prog 59 #[av ad cd af cf a,.string name] w fun e w'=>e=.returned (.int .i64 (match Ar.fatK a.files name a.files.length with | none=>-1 | some i=>(i:Int)))/\Below w.heap.size w w':=by
 have hb:=fun o=>(bR w.heap.size w).alloc (nl _) o
 have HFl:Hid (∀ w',Below w.heap.size w w'->∀ k,k<a.files.length->∃ b off,af=some ⟨b,off,none⟩/\b<w'.heap.size/\FlC w' b (off+k*5) (Ar.fa a.files k)):=fun w' h9 k hk=>(h.below h9).at hk
 obtain ⟨r,hr⟩:∃ r,(match Ar.fatK a.files name a.files.length with | none=>(-1:Int) | some i=>(i:Int))=r:=⟨_,rfl⟩
 rw [hr];have Hr:Hid ((match Ar.fatK a.files name a.files.length with | none=>(-1:Int) | some i=>(i:Int))=r):=hr;clear hr h;unfold av;generalize hN:a.files.length=N at *;have HN:Hid (a.files.length=N):=hN;clear hN;generalize a.dicts.length=D at *;have hNi:(N:Int)<=12:=by omega
 go_enter Tryz.func59,Tryz.ntmps59
 go_wp2_with fail
 have a1:(w.alloc (.cells #[.slice ad D cd,.slice af N cf] 25 (0,0))).cell? ⟨w.heap.size,1,none⟩=some (.slice af N cf):=cN _ _ _ 1;have B1:=hb (.cells #[.slice ad D cd,.slice af N cf] 25 (0,0));generalize (w.alloc (.cells #[.slice ad D cd,.slice af N cf] 25 (0,0)))=w1 at *;go_loopw [5] (fun i wr=>∃ k:Nat,k<=N/\i=.int .i64 k/\Hid (Ar.fatK a.files name k=none)/\wr=w1) (fun i _=>N - (intOf i).toNat)
 case atStart=>exact ⟨0,by omega,rfl,rfl,rfl⟩
 case round =>
  obtain ⟨k,hk2,rfl,HL,rfl⟩:=hrel;by_cases hlt:k<N
  ·have d1:decide ((k:Int)<(N:Int))=true:=by simp;omega
   have d1':decide (k<N)=true:=by simp;omega
   have hki:(k:Int)<(N:Int):=by omega
   obtain ⟨b,off,rfl,hbl,hcell⟩:=HFl.out wr B1 k hlt;obtain ⟨c0,c1,c2,c3,c4⟩:=hcell;have hbe:=ZdM (Ar.fa a.files k).name name;by_cases hd:(Ar.fa a.files k).name=name
   ·have HNx:Hid (Ar.fatK a.files name (k+1)=some k):=by show _=_;rw [Ar.fatK,HL.out];exact if_pos hd
    have HR:Hid ((k:Int)=r):=by
     have h9:=Ar.Zns HNx.out (N - (k+1));rw [show k+1+(N - (k+1))=N by omega] at h9;have:=Hr.out;rw [h9] at this;exact this
    rw [decide_eq_true hd] at hbe;clear HNx hd Hr HL;generalize (Ar.fa a.files k).name=f0 at *;go_wp2_with fail
    go_ret
    exact ⟨congrArg (fun x=>Ending.returned (Value.int .i64 x)) HR.out,B1⟩
   ·have HNx:Hid (Ar.fatK a.files name (k+1)=none):=by show _=_;rw [Ar.fatK,HL.out];exact if_neg hd
    rw [decide_eq_false hd] at hbe;clear hd;generalize (Ar.fa a.files k).name=f0 at *;go_wp2_with fail
    go_roundw
    case rel=>exact ⟨k+1,by omega,by go_num,HNx,by trivial⟩
    case measure=>simp [intOf];omega
  ·obtain rfl:k=N:=by omega
   have HR:Hid ((-1:Int)=r):=by have:=Hr.out;rw [HL.out] at this;exact this
   have d1:decide ((k:Int)<(k:Int))=false:=by simp
   clear Hr;go_wp2_with fail
   go_ret
   exact ⟨congrArg (fun x=>Ending.returned (Value.int .i64 x)) HR.out,B1⟩
namespace Ar
theorem Znw (fs:List F) (name:ByteArray):∀ k,(rdK fs name k).length<=k
 | 0=>by simp [rdK]
 | k+1=>by
  have ih:=Znw fs name k;rw [rdK];split
  ·omega
  ·simp only [List.length_append,List.length_cons,List.length_nil];omega
end Ar
theorem Zle (ad af:Option Addr) (cd cf:Nat) (a:Ar.A) (name:ByteArray) (w:World) (h:ArV w ad af a) (hs:SaneA a) (hc:Ar.chk a ≠ 0) :
 Calls Tryz.prog 16 #[av ad cd af cf a,.string name] w fun e w'=>ArSaid w Ar.az (Ar.chk a) e w':=by
 have C1:Hid (∀ w',Below w.heap.size w w'->Calls Tryz.prog 19 #[av ad cd af cf a] w' fun e w2=>e=.returned (.int .i64 (Ar.chk a))/\Below w'.heap.size w' w2):=fun w' h9=>Zs ad af cd cf a w' (h.below h9) hs
 have hQ:Hid (∀ w',Below w.heap.size w w'->ArSaid w Ar.az (Ar.chk a) (.returned (.tuple #[.agg #[.slice none 0 0,.slice none 0 0],.int .i64 (Ar.chk a)])) w'):=fun w' h9=>Zy h9
 generalize ArSaid w Ar.az (Ar.chk a)=Q at *;unfold av at C1 |-
 generalize Ar.chk a=E at *;have e1:(E != 0)=true:=by simpa using hc
 have e2:(E == 0)=false:=by simpa using hc
 generalize a.dicts.length=D at *;generalize a.files.length=N at *;clear h hs hc;go_enter Tryz.func16,Tryz.ntmps16
 go_wp2_with fail
 refine (C1.out _ (Fr.start w _ _).b).mono ?_;rintro e w1 ⟨rfl,G1⟩;have F1:=(Fr.start w _ _).next G1;clear G1;obtain ⟨b,a0,a1,r0,r1,z0,z1,hz⟩:=id F1;go_wp2_with fail
 rw [F1.zero];exact bodyPost_ret (v:=.tuple #[.agg #[.slice none 0 0,.slice none 0 0],.int .i64 E]) (by simp [results,Tryz.results16,go_sem,F1.r0,F1.r1]) rfl (hQ.out _ F1.b)
theorem Ziz (ad af:Option Addr) (cd cf:Nat) (a:Ar.A) (name:ByteArray) (w:World) (h:ArV w ad af a) (hs:SaneA a) (hc:Ar.chk a=0) (ht:Ar.ZK a.files name=false) :
 Calls Tryz.prog 16 #[av ad cd af cf a,.string name] w fun e w'=>ArSaid w Ar.az 5 e w':=by
 obtain ⟨m1,m2,m3⟩:=Ar.Zw.1 (Ar.Zd.1 hc).1;have C1:Hid (∀ w',Below w.heap.size w w'->Calls Tryz.prog 19 #[av ad cd af cf a] w' fun e w2=>e=.returned (.int .i64 (Ar.chk a))/\Below w'.heap.size w' w2):=fun w' h9=>Zs ad af cd cf a w' (h.below h9) hs
 have C2:Hid (∀ w',Below w.heap.size w w'->Calls Tryz.prog 59 #[av ad cd af cf a,.string name] w' fun e w2=>e=.returned (.int .i64 (match Ar.fatK a.files name a.files.length with | none=>-1 | some i=>(i:Int)))/\Below w'.heap.size w' w2):=fun w' h9=>Zfv ad af cd cf a name w' (h.fs.below h9) m2
 rw [Ar.ZrB (Ar.Zbc hc) name,ht,if_neg (by decide)] at C2;simp only at C2;rw [hc] at C1;have hQ:Hid (∀ w',Below w.heap.size w w'->ArSaid w Ar.az 5 (.returned (.tuple #[.agg #[.slice none 0 0,.slice none 0 0],.int .i64 5])) w'):=fun w' h9=>Zy h9
 generalize ArSaid w Ar.az 5=Q at *;unfold av at C1 C2 |-
 generalize a.dicts.length=D at *;generalize a.files.length=N at *;clear h hs hc ht m3;go_enter Tryz.func16,Tryz.ntmps16
 go_wp2_with fail
 refine (C1.out _ (Fr.start w _ _).b).mono ?_;rintro e w1 ⟨rfl,G1⟩;have F1:=(Fr.start w _ _).next G1;clear G1;obtain ⟨b,a0,a1,r0,r1,z0,z1,hz⟩:=id F1;go_wp2_with fail
 refine (C2.out _ F1.b).mono ?_;rintro e w2 ⟨rfl,G⟩;have F2:=F1.next G;clear b a0 a1 r0 r1 z0 z1 hz;obtain ⟨b,a0,a1,r0,r1,z0,z1,hz⟩:=id F2;go_wp2_with fail
 rw [F2.zero];exact bodyPost_ret (v:=.tuple #[.agg #[.slice none 0 0,.slice none 0 0],.int .i64 5]) (by simp [results,Tryz.results16,go_sem,F2.r0,F2.r1]) rfl (hQ.out _ F2.b)
theorem Zmn (ad af:Option Addr) (cd cf:Nat) (a:Ar.A) (name:ByteArray) (w:World) (h:ArV w ad af a) (hs:SaneA a) (hc:Ar.chk a=0) (ht:Ar.ZK a.files name=true) :
 Calls Tryz.prog 16 #[av ad cd af cf a,.string name] w fun e w'=>ArSaid w ⟨a.dicts,Ar.rdK a.files name a.files.length⟩ 0 e w':=by
 obtain ⟨i0,hi,hz0,hz1,hz2⟩:=info_parts (P:=Tryz.prog) (e:=9) (z:=.string ⟨#[]⟩) (size:=1) (bytes:=16) (by kernel_rfl);obtain ⟨j0,gi,gz0,gz1,gz2⟩:=info_parts (P:=Tryz.prog) (e:=46) (z:=.agg #[.string ⟨#[]⟩,.int .i64 0,.int .i64 0,.int .i64 0,.string ⟨#[]⟩]) (size:=5) (bytes:=56) (by kernel_rfl);obtain ⟨m1,m2,m3⟩:=Ar.Zw.1 (Ar.Zd.1 hc).1;have C1:Hid (∀ w',Below w.heap.size w w'->Calls Tryz.prog 19 #[av ad cd af cf a] w' fun e w2=>e=.returned (.int .i64 (Ar.chk a))/\Below w'.heap.size w' w2):=fun w' h9=>Zs ad af cd cf a w' (h.below h9) hs
 have C2:Hid (∀ w',Below w.heap.size w w'->Calls Tryz.prog 59 #[av ad cd af cf a,.string name] w' fun e w2=>e=.returned (.int .i64 (match Ar.fatK a.files name a.files.length with | none=>-1 | some i=>(i:Int)))/\Below w'.heap.size w' w2):=fun w' h9=>Zfv ad af cd cf a name w' (h.fs.below h9) m2
 have hp:=(Ar.ZY ht).1;rw [Ar.ZrB (Ar.Zbc hc) name,ht,if_pos rfl] at C2;simp only at C2;rw [hc] at C1;have HDn:Hid (∀ w',Below w.heap.size w w'->(a.dicts.length=0\/∃ b,ad=some b/\∀ j u,(a.dicts.map Value.string)[j]?=some u->w'.cell? (b.add j)=some u)):=fun w' h9=>(h.ds.below h9).news
 have HFl:Hid (∀ k,k<a.files.length->∃ b off,af=some ⟨b,off,none⟩/\b<w.heap.size/\Hid (∀ w',Below w.heap.size w w'->w'.cell? ⟨b,off+k*5,none⟩=some (.string (Ar.fa a.files k).name)/\w'.cell? ⟨b,off+k*5+1,none⟩=some (.int .i64 (Ar.fa a.files k).dict)/\w'.cell? ⟨b,off+k*5+2,none⟩=some (.int .i64 (Ar.fa a.files k).size)/\w'.cell? ⟨b,off+k*5+3,none⟩=some (.int .i64 (Ar.fa a.files k).sum)/\w'.cell? ⟨b,off+k*5+4,none⟩=some (.string (Ar.fa a.files k).blk))):=fun k hk=>by
  obtain ⟨b,off,h1,h2,h3⟩:=h.fs.at hk;refine ⟨b,off,h1,h2,fun w' h9=>?_⟩;obtain ⟨k0,k1,k2,k3,k4⟩:=h3.below h9 h2;exact ⟨k0,k1,k2,k3,k4⟩
 have HDl:Hid ((a.dicts.map Value.string).length=a.dicts.length*1):=by show _=_;simp
 have HD1:Hid (∀ u ∈ a.dicts.map Value.string,u.oneCell'=true):=fun u hu=>by obtain ⟨x,_,rfl⟩:=List.mem_map.1 hu;rfl
 have hQ1:Hid (∀ v1 v2 w',w'.ownsRow w.heap.size 9 1 v1 a.dicts.length (a.dicts.map Value.string)->w'.ownsRow w.heap.size 46 5 v2 (Ar.rdK a.files name a.files.length).length (fcs (Ar.rdK a.files name a.files.length))->(∀ j,v1.ownBlock=some j->v2.ownBlock ≠ some j)->Below w.heap.size w w'->ArSaid w ⟨a.dicts,Ar.rdK a.files name a.files.length⟩ 0 (.returned (.tuple #[.agg #[v1,v2],.int .i64 0])) w'):=fun v1 v2 w' k1 k2 k3 k4=>⟨v1,v2,rfl,⟨k1,k2,k3⟩,k4⟩
 generalize ArSaid w ⟨a.dicts,Ar.rdK a.files name a.files.length⟩ 0=Q at *
 have HRS:Hid (∀ k,((Ar.fa a.files k).name=name->Ar.rdK a.files name (k+1)=Ar.rdK a.files name k)/\((Ar.fa a.files k).name ≠ name->Ar.rdK a.files name (k+1)=Ar.rdK a.files name k++[Ar.fa a.files k])):=fun k=>⟨fun h9=>by rw [Ar.rdK,if_pos h9],fun h9=>by rw [Ar.rdK,if_neg h9]⟩
 have HRL:Hid (∀ k,(Ar.rdK a.files name k).length<=k):=Ar.Znw a.files name;have HR0:Hid (Ar.rdK a.files name 0=[]):=rfl;generalize Ar.rdK a.files name=rp at *;generalize Ar.pos a.files name=ps at *;have HFc:Hid (∀ k,fcs [Ar.fa a.files k]=[.string (Ar.fa a.files k).name,.int .i64 (Ar.fa a.files k).dict,.int .i64 (Ar.fa a.files k).size,.int .i64 (Ar.fa a.files k).sum,.string (Ar.fa a.files k).blk]):=fun k=>rfl
 unfold av at C1 C2 |-
 clear h hs hc ht m3
 obtain ⟨D,hDD⟩:∃ D,a.dicts.length=D:=⟨_,rfl⟩
 obtain ⟨N,hNN⟩:∃ N,a.files.length=N:=⟨_,rfl⟩
 simp only [hDD,hNN] at C1 C2 HDn HFl HDl hQ1 m1 m2 hp |-
 clear hDD hNN;generalize a.dicts.map Value.string=ds at *;generalize Ar.fa a.files=fa at *;have hDi:(D:Int)<=4:=by omega
 have hNi:(N:Int)<=12:=by omega
 have dps:decide ((ps:Int)<0)=false:=dF (by omega);go_enter Tryz.func16,Tryz.ntmps16
 go_wp2_with fail
 refine (C1.out _ (Fr.start w _ _).b).mono ?_;rintro e w1 ⟨rfl,G1⟩;have F1:=(Fr.start w _ _).next G1;clear G1;obtain ⟨b,a0,a1,r0,r1,z0,z1,hz⟩:=id F1;go_wp2_with fail
 refine (C2.out _ F1.b).mono ?_;rintro e w3 ⟨rfl,G⟩;have F3:=F1.next G;clear b a0 a1 r0 r1 z0 z1 hz F1 G C1 C2;obtain ⟨b,a0,a1,r0,r1,z0,z1,hz⟩:=id F3;have hz9:w.heap.size<w3.heap.size:=by omega
 have O0:=ZcO w3 w3.heap.size 9 1 (nl _);have hD2:=HDn.out _ (F3.b.alloc (by have:=F3.b.size;omega) (.cells #[] 9 (0,0)));have hds1:=HDl.out;have hds2:=HD1.out
 go_wp2_with (first
  | (at_builtin;refine Zac rfl _ _ 22 rfl w3.heap.size 9 i0 (.string ⟨#[]⟩) 1 16 U22 hi hz0 hz1 hz2 rfl (by decide) w3.heap.size 0 0 [] rfl O0 ad D cd ds rfl hds1 hD2 hds2 (by unfold maxLen;omega) (by omega) (by simp) _ rfl ?_;intro g cp w5 hown5 hgrow5 hat5)
  | fail)
 have BX:Below w3.heap.size w3 w5:=((bR _ _).alloc (nl _) _).grown hgrow5 (by simp) (fun j hj=>by simp at hj;omega);simp only [Nat.zero_add,List.nil_append] at hown5 |-
 have S0:=CpS.new1 BX BX.size hown5;clear O0 hD2 hds1 hds2 hgrow5 hat5 hown5 HDn HDl HD1 BX a0 a1 r0 r1 z0 z1 b;generalize (w5.alloc (.cells #[.slice (some ⟨g,0,none⟩) D cp,.slice none 0 0] 25 (0,0)))=w6 at *;generalize w5.heap.size=C at *;go_loopw [8] (fun i wr=>∃ (k:Nat) (v2:Value),k<=N/\i=.int .i64 k/\CpS w3 wr C w3.heap.size (.slice (some ⟨g,0,none⟩) D cp) v2 D (rp k).length ds (fcs (rp k))) (fun i _=>N - (intOf i).toNat)
 case atStart=>exact ⟨0,_,by omega,rfl,by rw [HR0.out];exact S0⟩
 case round =>
  obtain ⟨k,v2,hk2,rfl,S1⟩:=hrel;have F2:=F3.keep S1.bel hz;obtain ⟨B2,a0,a1,r0,r1,z0,z1,hz2⟩:=id F2;by_cases hlt:k<N
  ·have e1:decide ((k:Int)<(N:Int))=true:=zdT (by omega);have e1':decide (k<N)=true:=zdT hlt;have hki:(k:Int)<(N:Int):=by omega
   obtain ⟨b,off,rfl,hbw,HFw⟩:=HFl.out k hlt;obtain ⟨c0,c1,c2,c3,c4⟩:=HFw.out wr B2;have hbl:b<wr.heap.size:=nT hbw B2.size;have HRk:=HRS.out k;have HFk:=HFc.out k;have HLk:=HRL.out k;have hbe:=ZdM (fa k).name name;by_cases hnm:(fa k).name=name
   ·rw [decide_eq_true hnm] at hbe;have HN:Hid (rp (k+1)=rp k):=HRk.1 hnm;clear HRk;generalize (fa k).name=f0 at *;subst hnm;go_wp2_with fail
    go_roundw
    case rel=>exact ⟨k+1,_,by omega,by go_num,by rw [HN.out];exact S1⟩
    case measure=>simp [intOf];omega
   ·rw [decide_eq_false hnm] at hbe;have HN:Hid (rp (k+1)=rp k++[fa k]):=HRk.2 hnm;clear HRk hnm;generalize rp k=L at *;have c1S:=S1.c1;have f1S:=S1.f1;have hbC:=S1.hb;have hlC:=S1.hC;obtain ⟨p2,q2,rfl,_⟩:=Zk S1.o2;have S9:=S1.below ((bR _ _).drew);generalize (fa k).name=f0 at *;generalize (fa k).dict=f1 at *;generalize (fa k).size=f2 at *;generalize (fa k).sum=f3 at *;generalize (fa k).blk=f4 at *;go_wp2_with fail
    go_region_law (first
     | (refine zsL _ rfl _ _ 23 rfl w3.heap.size 46 j0 (.agg #[.string ⟨#[]⟩,.int .i64 0,.int .i64 0,.int .i64 0,.string ⟨#[]⟩]) 5 56 U23 gi gz0 gz1 gz2 rfl (by decide) _ _ _ rfl (S9.o2.alloc _) ⟨wr.drew.heap.size,0,none⟩ 1 1 [.string f0,.int .i64 f1,.int .i64 f2,.int .i64 f3,.string f4] rfl rfl (ZdR _ _ _ _ _ _ _) (one5 _ _ _ _ _) (by decide) (by unfold maxLen;omega) (by omega) (by simp;omega) _ rfl ?_;intro g9 cp9 w9 hown7 hgrow7 hat7 hlt7;obtain ⟨⟨q1,q2⟩,S10⟩:=S9.put2 hgrow7 hown7 hat7;clear hgrow7 hown7 hat7 hlt7))
    all_goals
     go_wp2_with fail
     go_roundw
     case rel=>exact ⟨k+1,_,by omega,by go_num,by rw [HN.out];simp only [List.length_append,List.length_cons,List.length_nil,Zz,HFk];exact S10⟩
     case measure=>simp [intOf];omega
  ·obtain rfl:k=N:=by omega
   have e1:decide ((k:Int)<(k:Int))=false:=by simp
   have ne9:=S1.ne;have cc0:=S1.c0;have cc1:=S1.c1;have hC2:=S1.hb;obtain ⟨Bz,Oz1,Oz2,Rz0,Rz1⟩:=Zbb F2.b S1.o1 S1.o2 hz F2.r0 F2.r1;have hfin:=hQ1.out _ _ _ Oz1 Oz2 ne9 Bz;obtain ⟨p2,q2,rfl,_⟩:=Zk S1.o2;generalize rp k=RE at *;generalize RE.length=n at *;clear S1 hQ1 Oz1 Oz2 Bz;go_wp2_with fail
   generalize (wr.setCell ⟨w.heap.size+1,0,none⟩ (.slice (some ⟨g,0,none⟩) D cp)).setCell ⟨w.heap.size+1,1,none⟩ (.slice p2 n q2)=wz at *;exact bodyPost_ret (v:=.tuple #[.agg #[.slice (some ⟨g,0,none⟩) D cp,.slice p2 n q2],.int .i64 0]) (by simp [results,Tryz.results16,go_sem,Rz0,Rz1]) rfl hfin
theorem ZkE (ad af:Option Addr) (cd cf:Nat) (a:Ar.A) (name:ByteArray) (w:World) (h:ArV w ad af a) (hs:SaneA a) :
 Calls Tryz.prog 16 #[av ad cd af cf a,.string name] w fun e w'=>ArSaid w (Ar.ZbB a name) (Ar.getE a name) e w':=by
 by_cases hc:Ar.chk a=0
 ·cases ht:Ar.ZK a.files name with
  | false =>
   have e:Ar.getE a name=5:=by unfold Ar.getE;rw [if_neg (fun h9=>h9 hc),if_neg (by rw [ht];decide)]
   have e2:Ar.ZbB a name=Ar.az:=by unfold Ar.ZbB;rw [e,if_neg (by decide)]
   rw [e,e2];exact Ziz ad af cd cf a name w h hs hc ht
  | true =>
   have e:Ar.getE a name=0:=by unfold Ar.getE;rw [if_neg (fun h9=>h9 hc),if_pos ht]
   rw [Ar.ZpD e,e,<-Ar.Zvg (Ar.Zbc hc) ht];exact Zmn ad af cd cf a name w h hs hc ht
 ·have e:Ar.getE a name=Ar.chk a:=by unfold Ar.getE;rw [if_pos hc]
  have e2:Ar.ZbB a name=Ar.az:=by unfold Ar.ZbB;rw [e,if_neg hc]
  rw [e,e2];exact Zle ad af cd cf a name w h hs hc
theorem Zgk (ad af:Option Addr) (cd cf:Nat) (a:Ar.A) (size:Int) (w:World) (h:ArV w ad af a) (hs:SaneA a) (hc:Ar.chk a ≠ 0) :
 Calls Tryz.prog 28 #[av ad cd af cf a,.int .i64 size] w fun e w'=>ArSaid w Ar.az (Ar.chk a) e w':=by
 have C1:Hid (∀ w',Below w.heap.size w w'->Calls Tryz.prog 19 #[av ad cd af cf a] w' fun e w2=>e=.returned (.int .i64 (Ar.chk a))/\Below w'.heap.size w' w2):=fun w' h9=>Zs ad af cd cf a w' (h.below h9) hs
 have hQ:Hid (∀ w',Below w.heap.size w w'->ArSaid w Ar.az (Ar.chk a) (.returned (.tuple #[.agg #[.slice none 0 0,.slice none 0 0],.int .i64 (Ar.chk a)])) w'):=fun w' h9=>Zy h9
 generalize ArSaid w Ar.az (Ar.chk a)=Q at *;generalize Ar.chk a=E at *;have e1:(E != 0)=true:=by simpa using hc
 have e2:(E == 0)=false:=by simpa using hc
 clear hc;unfold av at C1 |-
 generalize a.dicts.length=D at *;generalize a.files.length=N at *;clear h hs;go_enter Tryz.func28,Tryz.ntmps28
 go_wp2_with fail
 refine (C1.out _ (Fr.start w _ _).b).mono ?_;rintro e w1 ⟨rfl,G1⟩;have F1:=(Fr.start w _ _).next G1;clear G1;obtain ⟨b,a0,a1,r0,r1,z0,z1,hz⟩:=id F1;go_wp2_with fail
 rw [F1.zero];exact bodyPost_ret (v:=.tuple #[.agg #[.slice none 0 0,.slice none 0 0],.int .i64 E]) (by simp [results,Tryz.results28,go_sem,F1.r0,F1.r1]) rfl (hQ.out _ F1.b)
theorem Zfe (ad af:Option Addr) (cd cf:Nat) (a:Ar.A) (size:Int) (w:World) (h:ArV w ad af a) (hs:SaneA a) (hc:Ar.chk a=0) (hz9:¬ (0<=size/\size<=256)) :
 Calls Tryz.prog 28 #[av ad cd af cf a,.int .i64 size] w fun e w'=>ArSaid w Ar.az 3 e w':=by
 have C1:Hid (∀ w',Below w.heap.size w w'->Calls Tryz.prog 19 #[av ad cd af cf a] w' fun e w2=>e=.returned (.int .i64 (Ar.chk a))/\Below w'.heap.size w' w2):=fun w' h9=>Zs ad af cd cf a w' (h.below h9) hs
 have C2:Hid (∀ w',Calls Tryz.prog 57 #[.int .i64 size,.int .i64 0,.int .i64 256] w' fun e w2=>e=.returned (.bool (decide (0<=size/\size<=256)))/\w2=w'):=fun w'=>ZJ size 0 256 w'
 have hQ:Hid (∀ w',Below w.heap.size w w'->ArSaid w Ar.az 3 (.returned (.tuple #[.agg #[.slice none 0 0,.slice none 0 0],.int .i64 3])) w'):=fun w' h9=>Zy h9
 generalize ArSaid w Ar.az 3=Q at *;rw [hc] at C1;rw [decide_eq_false hz9] at C2;clear hc hz9;unfold av at C1 |-
 generalize a.dicts.length=D at *;generalize a.files.length=N at *;clear h hs;go_enter Tryz.func28,Tryz.ntmps28
 go_wp2_with fail
 refine (C1.out _ (Fr.start w _ _).b).mono ?_;rintro e w1 ⟨rfl,G1⟩;have F1:=(Fr.start w _ _).next G1;clear G1;obtain ⟨b,a0,a1,r0,r1,z0,z1,hz⟩:=id F1;go_wp2_with fail
 refine (C2.out _).mono ?_;rintro e w2 ⟨rfl,rfl⟩;go_wp2_with fail
 rw [F1.zero];exact bodyPost_ret (v:=.tuple #[.agg #[.slice none 0 0,.slice none 0 0],.int .i64 3]) (by simp [results,Tryz.results28,go_sem,F1.r0,F1.r1]) rfl (hQ.out _ F1.b)
theorem Zfh (ad af:Option Addr) (cd cf:Nat) (a:Ar.A) (size:Int) (w:World) (h:ArV w ad af a) (hs:SaneA a) (hc:Ar.chk a=0) (hz9:0<=size/\size<=256) (h4:a.dicts.length=4) :
 Calls Tryz.prog 28 #[av ad cd af cf a,.int .i64 size] w fun e w'=>ArSaid w Ar.az 2 e w':=by
 have C1:Hid (∀ w',Below w.heap.size w w'->Calls Tryz.prog 19 #[av ad cd af cf a] w' fun e w2=>e=.returned (.int .i64 (Ar.chk a))/\Below w'.heap.size w' w2):=fun w' h9=>Zs ad af cd cf a w' (h.below h9) hs
 have C2:Hid (∀ w',Calls Tryz.prog 57 #[.int .i64 size,.int .i64 0,.int .i64 256] w' fun e w2=>e=.returned (.bool (decide (0<=size/\size<=256)))/\w2=w'):=fun w'=>ZJ size 0 256 w'
 have hQ:Hid (∀ w',Below w.heap.size w w'->ArSaid w Ar.az 2 (.returned (.tuple #[.agg #[.slice none 0 0,.slice none 0 0],.int .i64 2])) w'):=fun w' h9=>Zy h9
 generalize ArSaid w Ar.az 2=Q at *;rw [hc] at C1;rw [decide_eq_true hz9] at C2;have d4:decide ((4:Int)<=(a.dicts.length:Int))=true:=zdT (by omega);have d4':decide (4<=a.dicts.length)=true:=zdT (by omega);clear hc hz9 h4;unfold av at C1 |-
 generalize a.dicts.length=D at *;generalize a.files.length=N at *;clear h hs;go_enter Tryz.func28,Tryz.ntmps28
 go_wp2_with fail
 refine (C1.out _ (Fr.start w _ _).b).mono ?_;rintro e w1 ⟨rfl,G1⟩;have F1:=(Fr.start w _ _).next G1;clear G1;obtain ⟨b,a0,a1,r0,r1,z0,z1,hz⟩:=id F1;go_wp2_with fail
 refine (C2.out _).mono ?_;rintro e w2 ⟨rfl,rfl⟩;go_wp2_with fail
 rw [F1.zero];exact bodyPost_ret (v:=.tuple #[.agg #[.slice none 0 0,.slice none 0 0],.int .i64 2]) (by simp [results,Tryz.results28,go_sem,F1.r0,F1.r1]) rfl (hQ.out _ F1.b)
open Go.Maps
namespace Tr
def snK (t q:ByteArray):Nat->Nat
 | 0=>0
 | j+1=>snK t q j+(if pc t j=q then 1 else 0)
theorem Zrz (t q:ByteArray):∀ j,snK t q j<=j
 | 0=>nl _
 | j+1=>by have:=Zrz t q j;rw [snK];split <;> omega
theorem Zjt {t q:ByteArray} (hq:q.size=4):∀ {j:Nat},j<=t.size - 3->(snK t q j=0 ↔ stK q t j=false)
 | 0,_=>by simp [snK,stK]
 | j+1,h=>by
  have ih:=Zjt (t:=t) hq (j:=j) (by omega);rw [snK,stK,Bool.or_eq_false_iff,<-ih,decide_eq_false_iff_not,hq];constructor
  ·intro h9;refine ⟨by omega,?_⟩;rintro ⟨_,e⟩;rw [if_pos (show pc t j=q from e)] at h9;omega
  ·rintro ⟨h1,h2⟩;rw [if_neg (show ¬ pc t j=q from fun e=>h2 ⟨by omega,e⟩)];omega
theorem ZsY (t:ByteArray) (j:Nat):snK t (pc t j) (j+1)=snK t (pc t j) j+1:=by rw [snK,if_pos rfl]
theorem ZnW {t q:ByteArray} {j:Nat} (h:q ≠ pc t j):snK t q (j+1)=snK t q j:=by rw [snK,if_neg (fun e=>h e.symm)];rfl
theorem CM.below {w w':World} {b n:Nat} {f:ByteArray->Nat} (h:CM w b n f) (hb:Below w.heap.size w w'):CM w' b n f:=by
 obtain ⟨D,h1,h2⟩:=h;refine ⟨D,?_,h2⟩;have hlt:=h1.lt;obtain ⟨es,cl,h3,h4⟩:=h1;exact ⟨es,cl,by rw [hb.block b hlt];exact h3,h4⟩
theorem CM.kept' {w w':World} {b n:Nat} {f:ByteArray->Nat} {row:Option Nat} (h:CM w b n f) (hg:w.grownBy w' row) (hne:some b ≠ row):CM w' b n f:=by
 obtain ⟨D,h1,h2⟩:=h;exact ⟨D,h1.kept hg hne,h2⟩
theorem CM.at_f {f:ByteArray->Nat} {D:DataW Unit} (h3:∀ q:ByteArray,q.size=4->D.atKey (kl q) (i64 0)=i64 (f q)) (p:ByteArray) (hp:p.size=4) (c:Int) (h9:D.atKey (kl p) (.lit (.int .i64 0))=.lit (.int .i64 c)):c=(f p:Int):=by
 have h8:=h9.symm.trans (h3 p hp);simpa [i64] using h8
theorem Zrk {xs:List ByteArray} {d P B:ByteArray} {C:Nat} (h:C<ct xs P\/(ct xs P=C/\1<ct xs P/\bl P B=true)) (hs:st P d=false):bs xs d (B,C) P=(P,ct xs P):=by
 rw [bs,if_pos];rw [hs];rcases h with h | ⟨h1,h2,h3⟩
 ·simp [h]
 ·rw [h3];simp [h1];omega
theorem ZmX {xs:List ByteArray} {d P B:ByteArray} {C:Nat} (h:¬ (C<ct xs P\/(ct xs P=C/\1<ct xs P/\bl P B=true))\/st P d=true):bs xs d (B,C) P=(B,C):=by
 rw [bs,if_neg];intro h9;simp only [Bool.and_eq_true,Bool.or_eq_true,decide_eq_true_iff,Bool.not_eq_true',beq_iff_eq] at h9;rcases h with h | h
 ·apply h;rcases h9.1 with h8 | h8
  ·exact .inl h8
  ·exact .inr ⟨h8.1.1,h8.1.2,h8.2⟩
 ·rw [h] at h9;cases h9.2
theorem ZoK (xs:List ByteArray) (d:ByteArray):(best xs d).size=0\/(best xs d).size=4:=by
 rcases Zcy xs d with ⟨h,_⟩ | ⟨h,_⟩
 ·left;rw [h];rfl
 ·exact .inr h
def bsz:Value->Nat
 | .string b=>b.size
 | _=>0
theorem ZZ {b:ByteArray} (h:0<b.size):b.toList.isEmpty=false:=by
 rw [ByteArray.toList_eq,List.isEmpty_eq_false_iff];intro e;have:=congrArg List.length e;simp at this;rw [this] at h;exact absurd h (by decide)
theorem ZmG {b:ByteArray} (h:b.size=0):b=⟨#[]⟩:=by
 cases b with | mk d=>congr;exact Array.eq_empty_of_size_eq_zero h
end Tr
open Go.WideMaps
theorem Zhd (xs:List ByteArray) (size:Int) (b off cap:Nat) (w:World) (hx:Tr.TxAt w b off xs) (hn:xs.length<=12) (hB:∀ i,(Tr.xa xs i).size<=512) (h0:0<=size) (h1:size<=256) :
 Calls Tryz.prog 70 #[.slice (some ⟨b,off,none⟩) xs.length cap,.int .i64 size] w fun e w'=>e=.returned (.string (Tr.trn xs size.toNat))/\Below w.heap.size w w':=by
 have HX:Hid (∀ w',Below w.heap.size w w'->∀ i,i<xs.length->w'.cell? ⟨b,off+i,none⟩=some (.string (Tr.xa xs i))):=fun w' h=>(hx.below h).2
 have HB:Hid (∀ i,(Tr.xa xs i).size<=512):=hB;clear hB hx;have hn':(xs.length:Int)<=12:=by omega
 have hmm:=@run_makeMap Tryz.prog
 obtain ⟨R,hR⟩:∃ R,Tr.trn xs size.toNat=R:=⟨_,rfl⟩
 rw [hR];have HR0:Hid (Tr.tro xs size.toNat 65 ⟨#[]⟩=R):=hR;clear hR;go_enter Tryz.func70,Tryz.ntmps70
 go_wp2_with fail
 go_loopw [6] (fun i wr=>∃ k:Nat,k<=xs.length/\i=.int .i64 k/\Tr.CM wr w.heap.size (512*k) (fun q=>Tr.ctK xs q k)/\Below w.heap.size w wr) (fun i _=>xs.length - (intOf i).toNat)
 case atStart=>exact ⟨0,by omega,rfl,Tr.CM.made _,(bR _ _).alloc (nl _) _⟩
 case round =>
  obtain ⟨k,hk2,rfl,hC,B1⟩:=hrel;by_cases hlt:k<xs.length
  ·have d1:decide ((k:Int)<(xs.length:Int))=true:=by simp;omega
   have d1':decide (k<xs.length)=true:=by simp;omega
   have hki:(k:Int)<(xs.length:Int):=by omega
   have hXs:=HB.out k
   obtain ⟨X,hX⟩:∃ X,Tr.xa xs k=X:=⟨_,rfl⟩
   rw [hX] at hXs;have HXk:Hid (Tr.xa xs k=X):=hX;clear hX;have hwb:w.heap.size<wr.heap.size:=by obtain ⟨D,h,_⟩:=hC;exact h.lt
   have hC0:=hC.below ((bR wr.heap.size wr).alloc (nl _) (.map #[] 0));have B0:=B1.alloc B1.size (.map #[] 0);clear hC B1;go_wp2_with fail
   have HS:Hid (∀ w',Below w.heap.size w w'->w'.cell? ⟨b,off+k,none⟩=some (.string X)):=fun w' h=>by rw [<-HXk.out];exact HX.out w' h k hlt
   have hsm:=Tr.CM.made wr;generalize wr.heap.size=sb at *;go_loopw [8] (fun i wr2=>∃ j:Nat,j<=X.size - 3/\i=.int .i64 j/\Tr.CM wr2 w.heap.size (512*k+j) (Tr.cn xs k j)/\Tr.CM wr2 sb j (fun q=>Tr.snK X q j)/\Below w.heap.size w wr2) (fun i _=>X.size - 3 - (intOf i).toNat)
   case atStart=>exact ⟨0,by omega,rfl,hC0.same (by omega) (fun q _=>(Tr.ZoO xs k q).symm),hsm,B0⟩
   case round =>
    clear hC0 hsm B0;obtain ⟨j,hj2,rfl,hC,hS,B1⟩:=hrel;have c1:=HS.out _ B1;by_cases hjl:j<X.size - 3
    ·have e1:decide ((j:Int)+4<=(X.size:Int))=true:=zdT (by omega);have hji:(j:Int)+4<=(X.size:Int):=by omega
     have hjn:j+4<=X.size:=by omega
     have hj5:(j:Int)<=512:=by omega
     obtain ⟨P,hP⟩:∃ P,X.extract j (j+4)=P:=⟨_,rfl⟩
     have HP:Hid (Tr.pc X j=P):=hP;have hP4:Hid (P.size=4):=by show _=_;rw [<-HP.out];exact Tr.ZeX hjl
     have hkey:keyOf Tryz.prog 9 (.string (X.extract j (j+4)))=some (Tr.kl P):=by rw [hP];exact keyOf_string_mk U9 (by rw [hP4.out];decide)
     clear hP;have HZ:=Tr.Zjt (t:=X) hP4.out (j:=j) (by omega);have hsl:=Tr.Zrz X P j;have hsl2:Hid (Tr.snK X P (j+1)=Tr.snK X P j+1):=by have:=Tr.ZsY X j;rw [HP.out] at this;exact this
     have hsl3:Hid (∀ q:ByteArray,q.size=4->q ≠ P->Tr.snK X q (j+1)=Tr.snK X q j):=fun q _ hne=>Tr.ZnW (by rw [HP.out];exact hne)
     obtain ⟨E,hS0,hE2,hE3,hE4⟩:=hS;have hatS:=Tr.CM.at_f hE3 P hP4.out
     obtain ⟨N,hN⟩:∃ N,Tr.snK X P j=N:=⟨_,rfl⟩
     simp only [hN] at hatS;rw [hN] at HZ hsl;have HN:Hid (Tr.snK X P j=N):=hN;have hNi:(N:Int)<=512:=by omega
     have wf1:(Lit.int .i64 ((N:Int)+1)).wf=true:=WalkArith.wf_i64 (by omega);clear hN hsl;by_cases hz:N=0
     ·subst hz;have hst:=HZ.1 rfl
      have HN2:Hid (Tr.cn xs k (j+1) P=Tr.cn xs k j P+1):=by
       have:=Tr.ZrE (xs:=xs) (k:=k) (i:=j) (by rw [HXk.out];exact hjl) (by rw [HXk.out,HP.out];exact hst);rw [HXk.out,HP.out] at this;exact this
      have HO:Hid (∀ q:ByteArray,q.size=4->q ≠ P->Tr.cn xs k (j+1) q=Tr.cn xs k j q):=fun q hq hne=>Tr.Zfx hq (by rw [HXk.out,HP.out];exact hne)
      obtain ⟨D,hown,hD2,hD3,hD4⟩:=hC;have hatC:=Tr.CM.at_f hD3 P hP4.out;have hcl:=Tr.ZuU xs k j P
      obtain ⟨C,hCC⟩:∃ C,Tr.cn xs k j P=C:=⟨_,rfl⟩
      rw [hCC] at hatC hcl;have HCC:Hid (Tr.cn xs k j P=C):=hCC;have hCi:(C:Int)<=13:=by omega
      have wf2:(Lit.int .i64 ((C:Int)+1)).wf=true:=WalkArith.wf_i64 (by omega);clear hCC hcl hst HZ
      go_wp2_with (first
       | (at_lookup;refine wpList_lookup_own_int _ rfl _ _ 140 rfl 9 3 .i64 keyS U140 zU3 (ZbW _) sb j _ rfl hS1 _ _ rfl hkey ?_;intro c hat hwc;obtain rfl:=hatS c hat;clear hat hwc)
       | (at_lookup;refine wpList_lookup_own_int _ rfl _ _ 140 rfl 9 3 .i64 keyS U140 zU3 (ZbW _) sb j _ rfl hS0 _ _ rfl hkey ?_;intro c hat hwc;obtain rfl:=hatS c hat;clear hat hwc)
       | (at_lookup;refine wpList_lookup_own_int _ rfl _ _ 140 rfl 9 3 .i64 keyS U140 zU3 (ZbW _) w.heap.size (512*k+j) _ rfl hown _ _ rfl hkey ?_;intro c hat hwc;obtain rfl:=hatC c hat;clear hat hwc)
       | (at_mapUpdate;refine wpList_mapUpdate_own _ rfl _ _ _ 140 rfl 9 3 keyS U140 _ w.heap.size (512*k+j) _ rfl hown (by unfold maxLen;omega) _ _ _ rfl rfl hkey _ [] (plainElem_int zU3 wf2) ?_;intro w1 hown1 hgrow1;have hS1:=hS0.kept hgrow1 (by simp;omega);clear hS0)
       | (at_mapUpdate;refine wpList_mapUpdate_own _ rfl _ _ _ 140 rfl 9 3 keyS U140 _ sb j _ rfl hS1 (by unfold maxLen;omega) _ _ _ rfl rfl hkey _ [] (plainElem_int zU3 wf1) ?_;intro w2 hS2 hgrow2;have hown2:=hown1.kept hgrow2 (by simp;omega);clear hown1 hS1)
       | fail)
      have hC2:Tr.CM w2 w.heap.size (512*k+(j+1)) (Tr.cn xs k (j+1)):=Tr.CM.put hP4.out hD2 hD3 hD4 (by rw [HN2.out,HCC.out];exact hown2) HN2.out HO.out;have hSS2:Tr.CM w2 sb (j+1) (fun q=>Tr.snK X q (j+1)):=Tr.CM.put hP4.out hE2 hE3 hE4 (by show w2.ownsMap _ _ _ _ _ (E.put _ (Tr.i64 ((Tr.snK X P (j+1):Nat):Int)));rw [hsl2.out,HN.out];exact hS2) hsl2.out hsl3.out;have B2:=(B1.grown hgrow1 B1.size (fun j hj=>by cases hj;exact nl _)).grown hgrow2 (by have:=hgrow1.size;have:=B1.size;omega) (fun j hj=>by cases hj;omega);clear hown2 hS2 hgrow1 hgrow2 B1 hown;go_roundw
      case rel=>exact ⟨j+1,by omega,by go_num,hC2,hSS2,B2⟩
      case measure=>simp [intOf];omega
     ·have hst:Tr.stK P X j=true:=by
       cases h9:Tr.stK P X j with
       | true=>rfl
       | false=>exact absurd (HZ.2 h9) hz
      have HN2:Hid (∀ q:ByteArray,q.size=4->Tr.cn xs k j q=Tr.cn xs k (j+1) q):=fun q hq=>(Tr.Zrh (by rw [HXk.out,HP.out];exact hst) hq).symm
      have hz':¬ (N:Int)=0:=by omega
      have e2:decide ((N:Int)=0)=false:=dF hz';have e3:((N:Int) == 0)=false:=by simpa using hz'
      clear hst HZ
      go_wp2_with (first
       | (at_lookup;refine wpList_lookup_own_int _ rfl _ _ 140 rfl 9 3 .i64 keyS U140 zU3 (ZbW _) sb j _ rfl hS0 _ _ rfl hkey ?_;intro c hat hwc;obtain rfl:=hatS c hat;clear hat hwc)
       | (at_mapUpdate;refine wpList_mapUpdate_own _ rfl _ _ _ 140 rfl 9 3 keyS U140 _ sb j _ rfl hS0 (by unfold maxLen;omega) _ _ _ rfl rfl hkey _ [] (plainElem_int zU3 wf1) ?_;intro w2 hS2 hgrow2)
       | fail)
      have hC2:Tr.CM w2 w.heap.size (512*k+(j+1)) (Tr.cn xs k (j+1)):=(hC.kept' hgrow2 (by simp;omega)).same (by omega) HN2.out;have hSS2:Tr.CM w2 sb (j+1) (fun q=>Tr.snK X q (j+1)):=Tr.CM.put hP4.out hE2 hE3 hE4 (by show w2.ownsMap _ _ _ _ _ (E.put _ (Tr.i64 ((Tr.snK X P (j+1):Nat):Int)));rw [hsl2.out,HN.out];exact hS2) hsl2.out hsl3.out;have B2:=B1.grown hgrow2 B1.size (fun j hj=>by cases hj;omega);clear hS0 hS2 hgrow2 B1 hC;go_roundw
      case rel=>exact ⟨j+1,by omega,by go_num,hC2,hSS2,B2⟩
      case measure=>simp [intOf];omega
    ·have e1:decide ((j:Int)+4<=(X.size:Int))=false:=dF (by omega);have hj5:(j:Int)<=512:=by omega
     have hC2:Tr.CM wr w.heap.size (512*(k+1)) (fun q=>Tr.ctK xs q (k+1)):=hC.same (by omega) (fun q hq=>Tr.Zrn hq (by rw [HXk.out];omega));clear hC hS;go_wp2_with fail
     go_roundw
     case rel=>exact ⟨k+1,by omega,by go_num,hC2,B1⟩
     case measure=>simp [intOf];omega
  ·obtain rfl:k=xs.length:=by omega
   have d1:decide ((xs.length:Int)<(xs.length:Int))=false:=by simp
   have hC0:Tr.CM wr w.heap.size 6144 (Tr.ct xs):=hC.same (by omega) (fun _ _=>rfl);clear hC hmm hlt hk2;go_wp2_with fail
   go_loopw [10] (fun dv wr=>∃ (d:ByteArray) (f:Nat),dv=.string d/\Hid (Tr.tro xs size.toNat f d=R)/\Hid (4*f+d.size=260)/\d.size<=256/\Tr.CM wr w.heap.size 6144 (Tr.ct xs)/\Below w.heap.size w wr) (fun dv _=>300 - Tr.bsz dv)
   case atStart=>exact ⟨⟨#[]⟩,65,rfl,HR0,rfl,by decide,hC0,B1⟩
   case round =>
    clear hC0 B1 HR0;obtain ⟨d,f,rfl,HRd,Hf,hd,hC0,B1⟩:=hrel;by_cases hfit:(d.size:Int)+4<=size
    ·have e1:decide ((d.size:Int)+4<=size)=true:=zdT hfit;go_wp2_with fail
     go_loopw [11,12,13] (fun bv cv iv wr2=>∃ (B:ByteArray) (C k:Nat),k<=xs.length/\iv=.int .i64 k/\bv=.string B/\cv=.int .i64 C/\Hid (Tr.bsT xs d k=(B,C))/\B.size<=4/\C<=100/\Tr.CM wr2 w.heap.size 6144 (Tr.ct xs)/\Below w.heap.size w wr2) (fun _ _ iv _=>xs.length - (intOf iv).toNat)
     case atStart=>exact ⟨⟨#[]⟩,1,0,by omega,rfl,rfl,rfl,rfl,by decide,by omega,hC0,B1⟩
     case round =>
      clear hC0 B1;obtain ⟨B0,C0,k,hk2,rfl,rfl,rfl,HT,hB0,hC00,hC0,B1⟩:=hrel;by_cases hlt:k<xs.length
      ·have d1:decide ((k:Int)<(xs.length:Int))=true:=by simp;omega
       have d1':decide (k<xs.length)=true:=by simp;omega
       have hki:(k:Int)<(xs.length:Int):=by omega
       have hXs:=HB.out k
       obtain ⟨X,hX⟩:∃ X,Tr.xa xs k=X:=⟨_,rfl⟩
       rw [hX] at hXs;have HXk:Hid (Tr.xa xs k=X):=hX;clear hX;have HS:Hid (∀ w',Below w.heap.size w w'->w'.cell? ⟨b,off+k,none⟩=some (.string X)):=fun w' h=>by rw [<-HXk.out];exact HX.out w' h k hlt
       go_wp2_with fail
       go_loopw [11,12,14] (fun bv cv iv wr2=>∃ (B:ByteArray) (C j:Nat),j<=X.size - 3/\iv=.int .i64 j/\bv=.string B/\cv=.int .i64 C/\Hid (Tr.bsR xs d X (B0,C0) j=(B,C))/\B.size<=4/\C<=100/\Tr.CM wr2 w.heap.size 6144 (Tr.ct xs)/\Below w.heap.size w wr2) (fun _ _ iv _=>X.size - 3 - (intOf iv).toNat)
       case atStart=>exact ⟨B0,C0,0,by omega,rfl,rfl,rfl,rfl,hB0,hC00,hC0,B1⟩
       case round =>
        clear hC0 B1;obtain ⟨B,C,j,hj2,rfl,rfl,rfl,HL,hB4,hC1,hC0,B2⟩:=hrel;have c1:=HS.out _ B2;by_cases hjl:j<X.size - 3
        ·have e2:decide ((j:Int)+4<=(X.size:Int))=true:=zdT (by omega);have hji:(j:Int)+4<=(X.size:Int):=by omega
         have hjn:j+4<=X.size:=by omega
         have hj5:(j:Int)<=512:=by omega
         obtain ⟨P,hP⟩:∃ P,X.extract j (j+4)=P:=⟨_,rfl⟩
         have HP:Hid (Tr.pc X j=P):=hP;have hP4:Hid (P.size=4):=by show _=_;rw [<-HP.out];exact Tr.ZeX hjl
         have hkey:keyOf Tryz.prog 9 (.string (X.extract j (j+4)))=some (Tr.kl P):=by rw [hP];exact keyOf_string_mk U9 (by rw [hP4.out];decide)
         have hC9:Hid (Tr.CM wr w.heap.size 6144 (Tr.ct xs)):=hC0;obtain ⟨D,hown,hD2,hD3,hD4⟩:=hC0;have hatC:=Tr.CM.at_f hD3 P hP4.out;have hcl:=Tr.Zki xs P xs.length
         change Tr.ct xs P<=_ at hcl
         have c2:∀ w,Calls Tryz.prog 110 #[.string (X.extract j (j+4)),.string d] w fun e w'=>e=.returned (.bool (Tr.st P d))/\Below w.heap.size w w':=fun w=>by rw [hP];exact Zlv P d w (by rw [hP4.out];omega) (by omega)
         obtain ⟨n,hnn⟩:∃ n,Tr.ct xs P=n:=⟨_,rfl⟩
         rw [hnn] at hatC hcl;have HNN:Hid (Tr.ct xs P=n):=hnn;have hni:(n:Int)<=12:=by omega
         have hCi:(C:Int)<=100:=by omega
         have HBL:Hid (Tr.bl P B=Op.bytesLess (X.extract j (j+4)).toList B.toList):=by show _=_;rw [hP];rfl
         clear hnn hP hD2 hD3 hD4;by_cases hA:C<n
         ·have hA':(C:Int)<(n:Int):=by omega
          have dA:decide ((C:Int)<(n:Int))=true:=zdT hA'
          cases hs:Tr.st P d with
          | false =>
           have HBS:Hid (Tr.bs xs d (B,C) P=(P,n)):=by show _=_;rw [Tr.Zrk (.inl (by rw [HNN.out];exact hA)) hs,HNN.out]
           rw [hs] at c2;clear hs
           go_wp2_with (first
            | (at_lookup;refine wpList_lookup_own_int _ rfl _ _ 140 rfl 9 3 .i64 keyS U140 zU3 (ZbW _) w.heap.size 6144 _ rfl hown _ _ rfl hkey ?_;intro c hat hwc;obtain rfl:=hatC c hat;clear hat hwc)
            | fail)
           refine (c2 _).mono ?_;rintro e w2 ⟨rfl,G⟩;have B3:=bch B2 G (nl _);have hC2:Tr.CM w2 w.heap.size 6144 (Tr.ct xs):=Tr.CM.below hC9.out G;go_wp2_with fail
           go_roundw
           case rel=>exact ⟨P,n,j+1,by omega,by go_num,by rw [show X.extract j (j+4)=P from HP.out],rfl,by show Tr.bsR _ _ _ _ (j+1)=_;rw [Tr.bsR,HL.out,HP.out,HBS.out],by rw [hP4.out];omega,by omega,hC2,B3⟩
           case measure=>simp [intOf];omega
          | true =>
           have HBS:Hid (Tr.bs xs d (B,C) P=(B,C)):=Tr.ZmX (.inr hs);rw [hs] at c2;clear hs
           go_wp2_with (first
            | (at_lookup;refine wpList_lookup_own_int _ rfl _ _ 140 rfl 9 3 .i64 keyS U140 zU3 (ZbW _) w.heap.size 6144 _ rfl hown _ _ rfl hkey ?_;intro c hat hwc;obtain rfl:=hatC c hat;clear hat hwc)
            | fail)
           refine (c2 _).mono ?_;rintro e w2 ⟨rfl,G⟩;have B3:=bch B2 G (nl _);have hC2:Tr.CM w2 w.heap.size 6144 (Tr.ct xs):=Tr.CM.below hC9.out G;go_wp2_with fail
           go_roundw
           case rel=>exact ⟨B,C,j+1,by omega,by go_num,rfl,rfl,by show Tr.bsR _ _ _ _ (j+1)=_;rw [Tr.bsR,HL.out,HP.out,HBS.out],hB4,hC1,hC2,B3⟩
           case measure=>simp [intOf];omega
         ·have hA':¬ (C:Int)<(n:Int):=by omega
          have dA:decide ((C:Int)<(n:Int))=false:=dF hA';by_cases hE:n=C
          ·subst hE;by_cases h2:1<n
           ·have h2':(1:Int)<(n:Int):=by omega
            have d2:decide ((1:Int)<(n:Int))=true:=zdT h2'
            cases hbl:Tr.bl P B with
            | true =>
             have hbl2:=hbl;rw [HBL.out] at hbl2
             cases hs:Tr.st P d with
             | false =>
              have HBS:Hid (Tr.bs xs d (B,n) P=(P,n)):=by show _=_;rw [Tr.Zrk (.inr ⟨HNN.out,by rw [HNN.out];exact h2,hbl⟩) hs,HNN.out]
              rw [hs] at c2;clear hs hbl
              go_wp2_with (first
               | (at_lookup;refine wpList_lookup_own_int _ rfl _ _ 140 rfl 9 3 .i64 keyS U140 zU3 (ZbW _) w.heap.size 6144 _ rfl hown _ _ rfl hkey ?_;intro c hat hwc;obtain rfl:=hatC c hat;clear hat hwc)
               | fail)
              refine (c2 _).mono ?_;rintro e w2 ⟨rfl,G⟩;have B3:=bch B2 G (nl _);have hC2:Tr.CM w2 w.heap.size 6144 (Tr.ct xs):=Tr.CM.below hC9.out G;go_wp2_with fail
              go_roundw
              case rel=>exact ⟨P,n,j+1,by omega,by go_num,by rw [show X.extract j (j+4)=P from HP.out],rfl,by show Tr.bsR _ _ _ _ (j+1)=_;rw [Tr.bsR,HL.out,HP.out,HBS.out],by rw [hP4.out];omega,by omega,hC2,B3⟩
              case measure=>simp [intOf];omega
             | true =>
              have HBS:Hid (Tr.bs xs d (B,n) P=(B,n)):=Tr.ZmX (.inr hs);rw [hs] at c2;clear hs hbl
              go_wp2_with (first
               | (at_lookup;refine wpList_lookup_own_int _ rfl _ _ 140 rfl 9 3 .i64 keyS U140 zU3 (ZbW _) w.heap.size 6144 _ rfl hown _ _ rfl hkey ?_;intro c hat hwc;obtain rfl:=hatC c hat;clear hat hwc)
               | fail)
              refine (c2 _).mono ?_;rintro e w2 ⟨rfl,G⟩;have B3:=bch B2 G (nl _);have hC2:Tr.CM w2 w.heap.size 6144 (Tr.ct xs):=Tr.CM.below hC9.out G;go_wp2_with fail
              go_roundw
              case rel=>exact ⟨B,n,j+1,by omega,by go_num,rfl,rfl,by show Tr.bsR _ _ _ _ (j+1)=_;rw [Tr.bsR,HL.out,HP.out,HBS.out],hB4,hC1,hC2,B3⟩
              case measure=>simp [intOf];omega
            | false =>
             have HBS:Hid (Tr.bs xs d (B,n) P=(B,n)):=Tr.ZmX (.inl (by rw [HNN.out,hbl];simp));rw [HBL.out] at hbl;clear c2
             go_wp2_with (first
              | (at_lookup;refine wpList_lookup_own_int _ rfl _ _ 140 rfl 9 3 .i64 keyS U140 zU3 (ZbW _) w.heap.size 6144 _ rfl hown _ _ rfl hkey ?_;intro c hat hwc;obtain rfl:=hatC c hat;clear hat hwc)
              | fail)
             go_roundw
             case rel=>exact ⟨B,n,j+1,by omega,by go_num,rfl,rfl,by show Tr.bsR _ _ _ _ (j+1)=_;rw [Tr.bsR,HL.out,HP.out,HBS.out],hB4,hC1,hC9.out,B2⟩
             case measure=>simp [intOf];omega
           ·have h2':¬ (1:Int)<(n:Int):=by omega
            have d2:decide ((1:Int)<(n:Int))=false:=dF h2';have HBS:Hid (Tr.bs xs d (B,n) P=(B,n)):=Tr.ZmX (.inl (by rw [HNN.out];omega));clear c2
            go_wp2_with (first
             | (at_lookup;refine wpList_lookup_own_int _ rfl _ _ 140 rfl 9 3 .i64 keyS U140 zU3 (ZbW _) w.heap.size 6144 _ rfl hown _ _ rfl hkey ?_;intro c hat hwc;obtain rfl:=hatC c hat;clear hat hwc)
             | fail)
            go_roundw
            case rel=>exact ⟨B,n,j+1,by omega,by go_num,rfl,rfl,by show Tr.bsR _ _ _ _ (j+1)=_;rw [Tr.bsR,HL.out,HP.out,HBS.out],hB4,hC1,hC9.out,B2⟩
            case measure=>simp [intOf];omega
          ·have hE':¬ (n:Int)=(C:Int):=by omega
           have d2:decide ((n:Int)=(C:Int))=false:=dF hE';have d3:((n:Int) == (C:Int))=false:=by simpa using hE'
           have HBS:Hid (Tr.bs xs d (B,C) P=(B,C)):=Tr.ZmX (.inl (by rw [HNN.out];omega));clear c2
           go_wp2_with (first
            | (at_lookup;refine wpList_lookup_own_int _ rfl _ _ 140 rfl 9 3 .i64 keyS U140 zU3 (ZbW _) w.heap.size 6144 _ rfl hown _ _ rfl hkey ?_;intro c hat hwc;obtain rfl:=hatC c hat;clear hat hwc)
            | fail)
           go_roundw
           case rel=>exact ⟨B,C,j+1,by omega,by go_num,rfl,rfl,by show Tr.bsR _ _ _ _ (j+1)=_;rw [Tr.bsR,HL.out,HP.out,HBS.out],hB4,hC1,hC9.out,B2⟩
           case measure=>simp [intOf];omega
        ·have e2:decide ((j:Int)+4<=(X.size:Int))=false:=dF (by omega);have hj5:(j:Int)<=512:=by omega
         have HT2:Hid (Tr.bsT xs d (k+1)=(B,C)):=by
          show _=_;rw [Tr.bsT,HXk.out,HT.out,show X.size - 3=j by omega];exact HL.out
         go_wp2_with fail
         go_roundw
         case rel=>exact ⟨B,C,k+1,by omega,by go_num,rfl,rfl,HT2,hB4,hC1,hC0,B2⟩
         case measure=>simp [intOf];omega
      ·obtain rfl:k=xs.length:=by omega
       have d1:decide ((xs.length:Int)<(xs.length:Int))=false:=by simp
       have HBB:Hid (Tr.best xs d=B0):=by show _=_;rw [Tr.best,HT.out]
       rcases Tr.ZoK xs d with hz | hz
       ·have HN:Hid (d=R):=by
         have h9:=HRd.out;rw [Tr.Zgq hz] at h9;exact h9
        rw [HBB.out] at hz;obtain rfl:=Tr.ZmG hz;clear hz;go_wp2_with fail
        go_ret
        exact ⟨by rw [HN.out];rfl,B1⟩
       ·obtain ⟨g,rfl⟩:∃ g,f=g+1:=⟨f - 1,by have:=Hf.out;omega⟩
        have HN:Hid (Tr.tro xs size.toNat g (B0++d)=R):=by
         have h9:=HRd.out;rw [Tr.Zkq (by omega) hz,HBB.out] at h9;exact h9
        rw [HBB.out] at hz;have hXd:(B0++d).size=4+d.size:=by rw [ByteArray.size_append,hz]
        have hne:B0.toList.isEmpty=false:=Tr.ZZ (by omega);have hne2:(B0.toList == [])=false:=by rw [<-hne];cases B0.toList <;> rfl
        have hf1:Hid (4*g+(B0++d).size=260):=by have:=Hf.out;show 4*g+_=260;omega
        have hzz:Hid (B0.size=4):=hz;clear hz;go_wp2_with fail
        go_roundw
        case rel=>exact ⟨B0++d,g,rfl,HN,hf1,by omega,hC0,B1⟩
        case measure=>simp [Tr.bsz];have:=hzz.out;omega
    ·have e1:decide ((d.size:Int)+4<=size)=false:=dF hfit
     have HN:Hid (d=R):=by
      have h9:=HRd.out;rw [Tr.Zkr (by omega)] at h9;exact h9
     go_wp2_with fail
     go_ret
     exact ⟨by rw [HN.out];rfl,B1⟩
theorem ZsT (size:Nat) (f:Nat):Tr.tro [] size f ⟨#[]⟩=⟨#[]⟩:=Tr.Zgq rfl
theorem Zir (size:Int) (ad:Option Addr) (cap:Nat) (w:World) :
 Calls Tryz.prog 70 #[.slice ad 0 cap,.int .i64 size] w fun e w'=>e=.returned (.string ⟨#[]⟩)/\Below w.heap.size w w':=by
 have hmm:=@run_makeMap Tryz.prog;go_enter Tryz.func70,Tryz.ntmps70
 go_wp2_with fail
 go_loopw [6] (fun i wr=>i=.int .i64 0/\Below w.heap.size w wr) (fun i _=>0)
 case atStart=>exact ⟨rfl,(bR _ _).alloc (nl _) _⟩
 case round =>
  obtain ⟨rfl,B1⟩:=hrel;go_wp2_with fail
  go_loopw [10] (fun dv wr=>dv=.string ⟨#[]⟩/\Below w.heap.size w wr) (fun _ _=>0)
  case atStart=>exact ⟨rfl,B1⟩
  case round =>
   clear B1;obtain ⟨rfl,B1⟩:=hrel;by_cases hfit:(4:Int)<=size
   ·have e1:decide ((4:Int)<=size)=true:=zdT hfit;go_wp2_with fail
    go_loopw [11,12,13] (fun bv cv iv wr=>iv=.int .i64 0/\bv=.string ⟨#[]⟩/\Below w.heap.size w wr) (fun _ _ _ _=>0)
    case atStart=>exact ⟨rfl,rfl,B1⟩
    case round =>
     clear B1;obtain ⟨rfl,rfl,B1⟩:=hrel;go_wp2_with fail
     go_ret
     exact ⟨rfl,B1⟩
   ·have e1:decide ((4:Int)<=size)=false:=dF hfit;go_wp2_with fail
    go_ret
    exact ⟨rfl,B1⟩
theorem Zjd (xs:List ByteArray) (size:Int) (ad:Option Addr) (cap:Nat) (w:World) (hx:TxSl w ad xs) (hn:xs.length<=12) (hB:∀ i,(Tr.xa xs i).size<=512) (h0:0<=size) (h1:size<=256) :
 Calls Tryz.prog 70 #[.slice ad xs.length cap,.int .i64 size] w fun e w'=>e=.returned (.string (Tr.trn xs size.toNat))/\Below w.heap.size w w':=by
 rcases hx with rfl | ⟨b,off,rfl,h2⟩
 ·rw [Tr.trn,ZsT];exact Zir size ad cap w
 ·exact Zhd xs size b off cap w h2 hn hB h0 h1
end Go.Proofs.YtbjbjbpgmojcbabGreat
