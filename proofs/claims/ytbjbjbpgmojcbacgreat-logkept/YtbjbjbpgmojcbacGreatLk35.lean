/- A part of the proof: what it leans on. -/
import Derived.Test.YtbjbjbpgmojcbacGreatLk33
import Derived.Test.YtbjbjbpgmojcbacGreatLk34
set_option maxRecDepth 8000
set_option maxHeartbeats 8000000
namespace Go.Proofs.YtbjbjbpgmojcbacGreat
open Go.RowKit
namespace Ar
theorem ZmT (fs:List F) (f:F):∀ k,(rpK fs f k).1.length<=k+1/\((rpK fs f k).2=false->(rpK fs f k).1.length<=k)
 | 0=>by simp [rpK]
 | k+1=>by
  have ih:=ZmT fs f k;rw [rpK];by_cases h1:(rpK fs f k).2=false/\Tr.bl (fa fs k).name f.name=false
  ·rw [if_pos h1];have:=ih.2 h1.1;by_cases h2:(fa fs k).name=f.name
   ·rw [if_pos h2];simp;omega
   ·rw [if_neg h2];simp;omega
  ·rw [if_neg h1];by_cases h2:(fa fs k).name=f.name
   ·rw [if_pos h2];exact ⟨by omega,fun h=>by have:=ih.2 h;omega⟩
   ·rw [if_neg h2];simp only [List.length_append,List.length_cons,List.length_nil];exact ⟨by omega,fun h=>by have:=ih.2 h;omega⟩
end Ar
theorem ZkD (ad af:Option Addr) (cd cf:Nat) (a:Ar.A) (name text:ByteArray) (dict:Int) (w:World) (h:ArV w ad af a) (hs:SaneA a) (hn:name.size<=140737488355328) (hc:Ar.chk a=0) (hm:Ar.isNm name=true) (hd:Ar.has a.dicts dict=true) (hl:text.size<=512)
 (R:Ar.A) (E:Int) (hR:(if 12<(Ar.ZeJ a.files (Ar.pk a.dicts name text dict)).length then (Ar.az,(2:Int)) else (⟨a.dicts,Ar.ZeJ a.files (Ar.pk a.dicts name text dict)⟩,0))=(R,E)) :
 Calls Tryz.prog 15 #[av ad cd af cf a,.string name,.string text,.int .i64 dict] w fun e w'=>ArSaid w R E e w':=by
 obtain ⟨i0,hi,hz0,hz1,hz2⟩:=info_parts (P:=Tryz.prog) (e:=9) (z:=.string ⟨#[]⟩) (size:=1) (bytes:=16) (by kernel_rfl);obtain ⟨j0,gi,gz0,gz1,gz2⟩:=info_parts (P:=Tryz.prog) (e:=47) (z:=.agg #[.string ⟨#[]⟩,.int .i64 0,.int .i64 0,.int .i64 0,.string ⟨#[]⟩]) (size:=5) (bytes:=56) (by kernel_rfl);obtain ⟨m1,m2,m3⟩:=Ar.Zw.1 (Ar.Ze.1 hc).1;have C1:Hid (∀ w',Below w.heap.size w w'->Calls Tryz.prog 36 #[av ad cd af cf a] w' fun e w2=>e=.returned (.int .i64 (Ar.chk a))/\Below w'.heap.size w' w2):=fun w' h9=>Zr ad af cd cf a w' (h.below h9) hs
 have C2:Hid (∀ w',Calls Tryz.prog 37 #[.string name] w' fun e w2=>e=.returned (.bool (Ar.isNm name))/\w2=w'):=fun w'=>ZaA name w' hn
 have C3:Hid (∀ w',Calls Tryz.prog 38 #[.int .i64 dict,.int .i64 0,.int .i64 (a.dicts.length:Nat)] w' fun e w2=>e=.returned (.bool (Ar.has a.dicts dict))/\w2=w'):=fun w'=>ZS dict 0 (a.dicts.length:Nat) w'
 have C4:Hid (∀ w',Below w.heap.size w w'->Calls Tryz.prog 39 #[av ad cd af cf a,.string name,.string text,.int .i64 dict] w' fun e w2=>e=.returned (fv (Ar.pk a.dicts name text dict))/\Below w'.heap.size w' w2):=fun w' h9=>Zfa ad af cd cf a name text dict w' (h.ds.below h9) hs.nd hd (Ar.ZaL (Ar.Ze.1 hc).1 _) hl
 have HDn:Hid (∀ w',Below w.heap.size w w'->(a.dicts.length=0\/∃ b,ad=some b/\∀ j u,(a.dicts.map Value.string)[j]?=some u->w'.cell? (b.add j)=some u)):=fun w' h9=>(h.ds.below h9).news
 have HFl:Hid (∀ k,k<a.files.length->∃ b off,af=some ⟨b,off,none⟩/\b<w.heap.size/\Hid (∀ w',Below w.heap.size w w'->w'.cell? ⟨b,off+k*5,none⟩=some (.string (Ar.fa a.files k).name)/\w'.cell? ⟨b,off+k*5+1,none⟩=some (.int .i64 (Ar.fa a.files k).dict)/\w'.cell? ⟨b,off+k*5+2,none⟩=some (.int .i64 (Ar.fa a.files k).size)/\w'.cell? ⟨b,off+k*5+3,none⟩=some (.int .i64 (Ar.fa a.files k).sum)/\w'.cell? ⟨b,off+k*5+4,none⟩=some (.string (Ar.fa a.files k).blk))):=fun k hk=>by
  obtain ⟨b,off,h1,h2,h3⟩:=h.fs.at hk;refine ⟨b,off,h1,h2,fun w' h9=>?_⟩;obtain ⟨k0,k1,k2,k3,k4⟩:=h3.below h9 h2;exact ⟨k0,k1,k2,k3,k4⟩
 have HDl:Hid ((a.dicts.map Value.string).length=a.dicts.length*1):=by show _=_;simp
 have HD1:Hid (∀ u ∈ a.dicts.map Value.string,u.oneCell'=true):=fun u hu=>by obtain ⟨x,_,rfl⟩:=List.mem_map.1 hu;rfl
 rw [hc] at C1;rw [hm] at C2;rw [hd] at C3;have d1:decide ((512:Int)<(text.size:Int))=false:=dF (by omega);have d1':decide (512<text.size)=false:=dF (by omega)
 have hQ0:Hid (12<(Ar.ZeJ a.files (Ar.pk a.dicts name text dict)).length->∀ w',Below w.heap.size w w'->ArSaid w R E (.returned (.tuple #[.agg #[.slice none 0 0,.slice none 0 0],.int .i64 2])) w'):=fun h9 w' h8=>by
  rw [if_pos h9] at hR;simp only [Prod.mk.injEq] at hR;obtain ⟨rfl,rfl⟩:=hR;exact Zx h8
 have hQ1:Hid (¬ 12<(Ar.ZeJ a.files (Ar.pk a.dicts name text dict)).length->∀ v1 v2 w',w'.ownsRow w.heap.size 9 1 v1 a.dicts.length (a.dicts.map Value.string)->w'.ownsRow w.heap.size 47 5 v2 (Ar.ZeJ a.files (Ar.pk a.dicts name text dict)).length (fcs (Ar.ZeJ a.files (Ar.pk a.dicts name text dict)))->(∀ j,v1.ownBlock=some j->v2.ownBlock ≠ some j)->Below w.heap.size w w'->ArSaid w R E (.returned (.tuple #[.agg #[v1,v2],.int .i64 0])) w'):=fun h9 v1 v2 w' k1 k2 k3 k4=>by
  rw [if_neg h9] at hR;simp only [Prod.mk.injEq] at hR;obtain ⟨rfl,rfl⟩:=hR;exact ⟨v1,v2,rfl,⟨k1,k2,k3⟩,k4⟩
 generalize ArSaid w R E=Q at *;clear hR hc hm hd hn h hs m3;have hfn:(Ar.pk a.dicts name text dict).name=name:=rfl;generalize Ar.pk a.dicts name text dict=f at *
 have HRS:Hid (∀ k d b e,(Ar.rpK a.files f k).2=d->Tr.bl (Ar.fa a.files k).name name=b->decide ((Ar.fa a.files k).name=name)=e->Ar.rpK a.files f (k+1)=if d=false/\b=false then (if e=true then ((Ar.rpK a.files f k).1++[f],true) else (((Ar.rpK a.files f k).1++[f])++[Ar.fa a.files k],true)) else (if e=true then Ar.rpK a.files f k else ((Ar.rpK a.files f k).1++[Ar.fa a.files k],(Ar.rpK a.files f k).2))):=fun k d b e h1 h2 h3=>by
  rw [Ar.rpK,hfn,h1,h2];by_cases hq:(Ar.fa a.files k).name=name
  ·rw [decide_eq_true hq] at h3;subst h3;rw [if_pos hq];rfl
  ·rw [decide_eq_false hq] at h3;subst h3;rw [if_neg hq];by_cases hz:d=false/\b=false
   ·rw [if_pos hz,if_pos hz];rfl
   ·rw [if_neg hz,if_neg hz,h1];rfl
 have HRE:Hid (Ar.ZeJ a.files f=if (Ar.rpK a.files f a.files.length).2=true then (Ar.rpK a.files f a.files.length).1 else (Ar.rpK a.files f a.files.length).1++[f]):=rfl;have HRL:Hid (∀ k,(Ar.rpK a.files f k).1.length<=k+1):=fun k=>(Ar.ZmT a.files f k).1
 have HR0:Hid (Ar.rpK a.files f 0=([],false)):=rfl;generalize Ar.rpK a.files f=rp at *;generalize Ar.ZeJ a.files f=RE at *;have HFc:Hid (∀ k,fcs [Ar.fa a.files k]=[.string (Ar.fa a.files k).name,.int .i64 (Ar.fa a.files k).dict,.int .i64 (Ar.fa a.files k).size,.int .i64 (Ar.fa a.files k).sum,.string (Ar.fa a.files k).blk]):=fun k=>rfl
 have HFf:Hid (fcs [f]=[.string f.name,.int .i64 f.dict,.int .i64 f.size,.int .i64 f.sum,.string f.blk]):=rfl;clear hfn;unfold av at C1 C4 |-
 unfold fv at C4;generalize f.name=g0 at *;generalize f.dict=g1 at *;generalize f.size=g2 at *;generalize f.sum=g3 at *;generalize f.blk=g4 at *
 obtain ⟨D,hDD⟩:∃ D,a.dicts.length=D:=⟨_,rfl⟩
 obtain ⟨N,hNN⟩:∃ N,a.files.length=N:=⟨_,rfl⟩
 simp only [hDD,hNN] at C1 C3 C4 HDn HFl HDl hQ1 HRE m1 m2 |-
 clear hDD hNN;generalize a.dicts.map Value.string=ds at *;generalize Ar.fa a.files=fa at *;have hDi:(D:Int)<=4:=by omega
 have hNi:(N:Int)<=12:=by omega
 go_enter Tryz.func15,Tryz.ntmps15
 go_wp2_with fail
 refine (C1.out _ (Fr.start w _ _).b).mono ?_;rintro e w1 ⟨rfl,G1⟩;have F1:=(Fr.start w _ _).next G1;clear G1 C1;obtain ⟨b,a0,a1,r0,r1,z0,z1,hz⟩:=id F1;go_wp2_with fail
 refine (C2.out _).mono ?_;rintro e w2 ⟨rfl,rfl⟩;clear C2;go_wp2_with fail
 refine (C3.out _).mono ?_;rintro e w3 ⟨rfl,rfl⟩;clear C3;have hz9:w.heap.size<w3.heap.size:=by omega
 have O0:=Zco w3 w3.heap.size 9 1 (nl _);have hD2:=HDn.out _ (F1.b.alloc (by have:=F1.b.size;omega) (.cells #[] 9 (0,0)));have hds1:=HDl.out;have hds2:=HD1.out
 go_wp2_with (first
  | (at_builtin;refine Zac rfl _ _ 30 rfl w3.heap.size 9 i0 (.string ⟨#[]⟩) 1 16 U30 hi hz0 hz1 hz2 rfl (by decide) w3.heap.size 0 0 [] rfl O0 ad D cd ds rfl hds1 hD2 hds2 (by unfold maxLen;omega) (by omega) (by simp) _ rfl ?_;intro g cp w5 hown5 hgrow5 hat5)
  | fail)
 have BX:Below w3.heap.size w3 w5:=((bR _ _).alloc (nl _) _).grown hgrow5 (by simp) (fun j hj=>by simp at hj;omega);simp only [Nat.zero_add,List.nil_append] at hown5 |-
 have S0:=CpS.new1 BX BX.size hown5;clear O0 hD2 hds1 hds2 hgrow5 hat5 hown5 HDn HDl HD1 BX a0 a1 r0 r1 z0 z1 b;generalize (w5.alloc (.cells #[.slice (some ⟨g,0,none⟩) D cp,.slice none 0 0] 33 (0,0)))=w6 at *;generalize w5.heap.size=C at *;go_loopw [12,13] (fun d i wr=>∃ (k:Nat) (v2:Value),k<=N/\d=.bool (rp k).2/\i=.int .i64 k/\CpS w3 wr C w3.heap.size (.slice (some ⟨g,0,none⟩) D cp) v2 D (rp k).1.length ds (fcs (rp k).1)) (fun _ i _=>N - (intOf i).toNat)
 case atStart=>exact ⟨0,_,by omega,by rw [HR0.out],rfl,by rw [HR0.out];exact S0⟩
 case round =>
  obtain ⟨k,v2,hk2,rfl,rfl,S1⟩:=hrel;have F2:=F1.keep S1.bel hz;obtain ⟨B2,a0,a1,r0,r1,z0,z1,hz2⟩:=id F2;by_cases hlt:k<N
  ·have e1:decide ((k:Int)<(N:Int))=true:=zdT (by omega);have e1':decide (k<N)=true:=zdT hlt;have hki:(k:Int)<(N:Int):=by omega
   obtain ⟨b,off,rfl,hbw,HFw⟩:=HFl.out k hlt;obtain ⟨c0,c1,c2,c3,c4⟩:=HFw.out wr B2;have hbl:b<wr.heap.size:=nT hbw B2.size;have HRk:=HRS.out k;have HFk:=HFc.out k;have HLk:=HRL.out k;have hbe:=Zdp (fa k).name name;by_cases hnm:(fa k).name=name
   ·rw [decide_eq_true hnm] at hbe
    cases hdn:(rp k).2 with
    | true =>
     have HN:Hid (rp (k+1)=rp k):=by
      show _=_;rw [HRk true _ true hdn rfl (decide_eq_true hnm)];rfl
     clear HRk;generalize (fa k).name=f0 at *;generalize (fa k).dict=f1 at *;generalize (fa k).size=f2 at *;generalize (fa k).sum=f3 at *;generalize (fa k).blk=f4 at *;subst hnm;go_wp2_with fail
     go_roundw
     case rel=>exact ⟨k+1,_,by omega,by rw [HN.out,hdn],by go_num,by rw [HN.out];exact S1⟩
     case measure=>simp [intOf];omega
    | false =>
     have hbl1:Tr.bl (fa k).name name=false:=by rw [hnm];exact Tr.ZcA _
     have HN:Hid (rp (k+1)=((rp k).1++[f],true)):=by
      show _=_;rw [HRk false false true hdn hbl1 (decide_eq_true hnm)];rfl
     unfold Tr.bl at hbl1;clear HRk hdn;generalize (rp k).1=L at *;have c1S:=S1.c1;have f1S:=S1.f1;have hbC:=S1.hb;have hlC:=S1.hC;obtain ⟨p2,q2,rfl,_⟩:=Zi S1.o2;generalize (fa k).name=f0 at *;generalize (fa k).dict=f1 at *;generalize (fa k).size=f2 at *;generalize (fa k).sum=f3 at *;generalize (fa k).blk=f4 at *;subst hnm;go_wp2_with fail
     go_region_law (first
      | (refine zsL _ rfl _ _ 31 rfl w3.heap.size 47 j0 (.agg #[.string ⟨#[]⟩,.int .i64 0,.int .i64 0,.int .i64 0,.string ⟨#[]⟩]) 5 56 U31 gi gz0 gz1 gz2 rfl (by decide) _ _ _ rfl (S2.o2.alloc _) ⟨w8.heap.size,0,none⟩ 1 1 [.string g0,.int .i64 g1,.int .i64 g2,.int .i64 g3,.string g4] rfl rfl (Zdw _ _ _ _ _ _ _) (one5 _ _ _ _ _) (by decide) (by unfold maxLen;omega) (by omega) (by simp;omega) _ rfl ?_;intro g7 cp7 w7 hown7 hgrow7 hat7 hlt7;obtain ⟨⟨q1,q2⟩,S4⟩:=S2.put2 hgrow7 hown7 hat7;clear hgrow7 hown7 hat7 hlt7)
      | (go_simp;go_at_call 39;refine (C4.out _ B2.drew).mono ?_;rintro e w8 ⟨rfl,G8⟩;have S2:=S1.below (Below.trans ((bR _ _).drew) G8);have c1T:=S2.c1;have hbT:=S2.hb;have c9T:∀ o,(w8.alloc o).cell? ⟨C,1,none⟩=some (.slice p2 L.length q2):=(fun o=>(cA _ _ _ hbT).trans c1T)))
     all_goals
      have F4:=F1.keep S4.bel hz;have c1U:=S4.c1;have f1U:=S4.f1;have hbU:=S4.hb;have hlU:=S4.hC;have S9:=S4.below ((bR _ _).drew);obtain ⟨B4,a0',a1',_,_,_,_,hz4⟩:=id F4;obtain ⟨c0',c1',c2',c3',c4'⟩:=HFw.out _ B4;have hbl':=nT hbw B4.size;clear c0 c1 c2 c3 c4 a0 a1 r0 r1 z0 z1 F2 F4 hz2 c1S f1S hbC hlC S1 S2 c1T hbT c9T G8 q1 q2;generalize (w7.setCell ⟨C,1,none⟩ (.slice (some ⟨g7,0,none⟩) (L.length+1) cp7))=wS at *;go_wp2_with fail
      go_roundw
      case rel=>exact ⟨k+1,_,by omega,by rw [HN.out],by go_num,by rw [HN.out];simp only [List.length_append,List.length_cons,List.length_nil,Zy,HFf.out];exact S4⟩
      case measure=>simp [intOf];omega
   ·rw [decide_eq_false hnm] at hbe
    cases hdn:(rp k).2 with
    | true =>
     have HN:Hid (rp (k+1)=((rp k).1++[fa k],true)):=by
      show _=_;rw [HRk true _ false hdn rfl (decide_eq_false hnm),hdn];rfl
     clear HRk hdn hnm;generalize (rp k).1=L at *;have c1S:=S1.c1;have f1S:=S1.f1;have hbC:=S1.hb;have hlC:=S1.hC;obtain ⟨p2,q2,rfl,_⟩:=Zi S1.o2;have S9:=S1.below ((bR _ _).drew);generalize (fa k).name=f0 at *;generalize (fa k).dict=f1 at *;generalize (fa k).size=f2 at *;generalize (fa k).sum=f3 at *;generalize (fa k).blk=f4 at *;go_wp2_with fail
     go_region_law (first
      | (refine zsL _ rfl _ _ 31 rfl w3.heap.size 47 j0 (.agg #[.string ⟨#[]⟩,.int .i64 0,.int .i64 0,.int .i64 0,.string ⟨#[]⟩]) 5 56 U31 gi gz0 gz1 gz2 rfl (by decide) _ _ _ rfl (S9.o2.alloc _) ⟨wr.drew.heap.size,0,none⟩ 1 1 [.string f0,.int .i64 f1,.int .i64 f2,.int .i64 f3,.string f4] rfl rfl (Zdw _ _ _ _ _ _ _) (one5 _ _ _ _ _) (by decide) (by unfold maxLen;omega) (by omega) (by simp;omega) _ rfl ?_;intro g9 cp9 w9 hown7 hgrow7 hat7 hlt7;obtain ⟨⟨q1,q2⟩,S10⟩:=S9.put2 hgrow7 hown7 hat7;clear hgrow7 hown7 hat7 hlt7))
     all_goals
      go_wp2_with fail
      go_roundw
      case rel=>exact ⟨k+1,_,by omega,by rw [HN.out],by go_num,by rw [HN.out];simp only [List.length_append,List.length_cons,List.length_nil,Zy,HFk];exact S10⟩
      case measure=>simp [intOf];omega
    | false =>
     cases hbl1:Tr.bl (fa k).name name with
     | true =>
      have HN:Hid (rp (k+1)=((rp k).1++[fa k],false)):=by
       show _=_;rw [HRk false true false hdn hbl1 (decide_eq_false hnm),hdn];rfl
      unfold Tr.bl at hbl1;clear HRk hdn hnm;generalize (rp k).1=L at *;have c1S:=S1.c1;have f1S:=S1.f1;have hbC:=S1.hb;have hlC:=S1.hC;obtain ⟨p2,q2,rfl,_⟩:=Zi S1.o2;have S9:=S1.below ((bR _ _).drew);generalize (fa k).name=f0 at *;generalize (fa k).dict=f1 at *;generalize (fa k).size=f2 at *;generalize (fa k).sum=f3 at *;generalize (fa k).blk=f4 at *;go_wp2_with fail
      go_region_law (first
       | (refine zsL _ rfl _ _ 31 rfl w3.heap.size 47 j0 (.agg #[.string ⟨#[]⟩,.int .i64 0,.int .i64 0,.int .i64 0,.string ⟨#[]⟩]) 5 56 U31 gi gz0 gz1 gz2 rfl (by decide) _ _ _ rfl (S9.o2.alloc _) ⟨wr.drew.heap.size,0,none⟩ 1 1 [.string f0,.int .i64 f1,.int .i64 f2,.int .i64 f3,.string f4] rfl rfl (Zdw _ _ _ _ _ _ _) (one5 _ _ _ _ _) (by decide) (by unfold maxLen;omega) (by omega) (by simp;omega) _ rfl ?_;intro g9 cp9 w9 hown7 hgrow7 hat7 hlt7;obtain ⟨⟨q1,q2⟩,S10⟩:=S9.put2 hgrow7 hown7 hat7;clear hgrow7 hown7 hat7 hlt7))
      all_goals
       go_wp2_with fail
       go_roundw
       case rel=>exact ⟨k+1,_,by omega,by rw [HN.out],by go_num,by rw [HN.out];simp only [List.length_append,List.length_cons,List.length_nil,Zy,HFk];exact S10⟩
       case measure=>simp [intOf];omega
     | false =>
      have HN:Hid (rp (k+1)=((rp k).1++[f]++[fa k],true)):=by
       show _=_;rw [HRk false false false hdn hbl1 (decide_eq_false hnm)];rfl
      unfold Tr.bl at hbl1;clear HRk hdn hnm;generalize (rp k).1=L at *;have c1S:=S1.c1;have f1S:=S1.f1;have hbC:=S1.hb;have hlC:=S1.hC;obtain ⟨p2,q2,rfl,_⟩:=Zi S1.o2;generalize (fa k).name=f0 at *;generalize (fa k).dict=f1 at *;generalize (fa k).size=f2 at *;generalize (fa k).sum=f3 at *;generalize (fa k).blk=f4 at *;go_wp2_with fail
      go_region_law (first
       | (refine zsL _ rfl _ _ 31 rfl w3.heap.size 47 j0 (.agg #[.string ⟨#[]⟩,.int .i64 0,.int .i64 0,.int .i64 0,.string ⟨#[]⟩]) 5 56 U31 gi gz0 gz1 gz2 rfl (by decide) _ _ _ rfl (S2.o2.alloc _) ⟨w8.heap.size,0,none⟩ 1 1 [.string g0,.int .i64 g1,.int .i64 g2,.int .i64 g3,.string g4] rfl rfl (Zdw _ _ _ _ _ _ _) (one5 _ _ _ _ _) (by decide) (by unfold maxLen;omega) (by omega) (by simp;omega) _ rfl ?_;intro g7 cp7 w7 hown7 hgrow7 hat7 hlt7;obtain ⟨⟨q1,q2⟩,S4⟩:=S2.put2 hgrow7 hown7 hat7;clear hgrow7 hown7 hat7 hlt7)
       | (go_simp;go_at_call 39;refine (C4.out _ B2.drew).mono ?_;rintro e w8 ⟨rfl,G8⟩;have S2:=S1.below (Below.trans ((bR _ _).drew) G8);have c1T:=S2.c1;have hbT:=S2.hb;have c9T:∀ o,(w8.alloc o).cell? ⟨C,1,none⟩=some (.slice p2 L.length q2):=(fun o=>(cA _ _ _ hbT).trans c1T)))
      all_goals
       have F4:=F1.keep S4.bel hz;have c1U:=S4.c1;have f1U:=S4.f1;have hbU:=S4.hb;have hlU:=S4.hC;have S9:=S4.below ((bR _ _).drew);obtain ⟨B4,a0',a1',_,_,_,_,hz4⟩:=id F4;obtain ⟨c0',c1',c2',c3',c4'⟩:=HFw.out _ B4;have hbl':=nT hbw B4.size;clear c0 c1 c2 c3 c4 a0 a1 r0 r1 z0 z1 F2 F4 hz2 c1S f1S hbC hlC S1 S2 c1T hbT c9T G8 q1 q2;generalize (w7.setCell ⟨C,1,none⟩ (.slice (some ⟨g7,0,none⟩) (L.length+1) cp7))=wS at *;go_wp2_with fail
       go_region_law (first
        | (refine zsL _ rfl _ _ 31 rfl w3.heap.size 47 j0 (.agg #[.string ⟨#[]⟩,.int .i64 0,.int .i64 0,.int .i64 0,.string ⟨#[]⟩]) 5 56 U31 gi gz0 gz1 gz2 rfl (by decide) _ _ _ rfl (S9.o2.alloc _) ⟨wS.drew.heap.size,0,none⟩ 1 1 [.string f0,.int .i64 f1,.int .i64 f2,.int .i64 f3,.string f4] rfl rfl (Zdw _ _ _ _ _ _ _) (one5 _ _ _ _ _) (by decide) (by unfold maxLen;omega) (by omega) (by simp;omega) _ rfl ?_;intro g9 cp9 w9 hown7 hgrow7 hat7 hlt7;obtain ⟨⟨q1,q2⟩,S10⟩:=S9.put2 hgrow7 hown7 hat7;clear hgrow7 hown7 hat7 hlt7))
       all_goals
        go_wp2_with fail
        go_roundw
        case rel=>exact ⟨k+1,_,by omega,by rw [HN.out],by go_num,by rw [HN.out];simp only [List.length_append,List.length_cons,List.length_nil,Zy,HFk,HFf.out];exact S10⟩
        case measure=>simp [intOf];omega
  ·obtain rfl:k=N:=by omega
   have e1:decide ((k:Int)<(k:Int))=false:=by simp
   cases hdn:(rp k).2 with
   | true =>
    have hE:RE=(rp k).1:=by rw [HRE.out,if_pos hdn]
    rw [<-hE] at S1;clear hdn HRE hE HRS HRL HR0 HFl HFc;obtain ⟨p2,q2,rfl,_⟩:=Zi S1.o2;have ne9:=S1.ne;have cc0:=S1.c0;have cc1:=S1.c1;have hC2:=S1.hb;by_cases hq:12<RE.length
    ·have hfin:=hQ0.out hq _ F2.b;have e2:decide ((12:Int)<(RE.length:Int))=true:=zdT (by omega);have e2':decide (12<RE.length)=true:=zdT hq;generalize RE.length=n at *;clear S1 hQ0 hQ1;go_wp2_with fail
     rw [F2.zero];exact bodyPost_ret (v:=.tuple #[.agg #[.slice none 0 0,.slice none 0 0],.int .i64 2]) (by simp [results,Tryz.results15,go_sem,F2.r0,F2.r1]) rfl hfin
    ·obtain ⟨Bz,Oz1,Oz2,Rz0,Rz1⟩:=ZaY F2.b S1.o1 S1.o2 hz F2.r0 F2.r1;have hfin:=hQ1.out hq _ _ _ Oz1 Oz2 ne9 Bz;have e2:decide ((12:Int)<(RE.length:Int))=false:=dF (by omega);have e2':decide (12<RE.length)=false:=dF hq;have hn12:RE.length<=12:=by omega
     generalize RE.length=n at *;clear S1 hQ0 hQ1 Oz1 Oz2 Bz hq;go_wp2_with fail
     generalize (wr.setCell ⟨w.heap.size+1,0,none⟩ (.slice (some ⟨g,0,none⟩) D cp)).setCell ⟨w.heap.size+1,1,none⟩ (.slice p2 n q2)=wz at *;exact bodyPost_ret (v:=.tuple #[.agg #[.slice (some ⟨g,0,none⟩) D cp,.slice p2 n q2],.int .i64 0]) (by simp [results,Tryz.results15,go_sem,Rz0,Rz1]) rfl hfin
   | false =>
    have hE:RE=(rp k).1++[f]:=by rw [HRE.out,if_neg (by rw [hdn];decide)]
    have HLk:=HRL.out k;generalize (rp k).1=L at *;have c1S:=S1.c1;have f1S:=S1.f1;have hbC:=S1.hb;have hlC:=S1.hC;obtain ⟨p2,q2,rfl,_⟩:=Zi S1.o2
    have HE:Hid (fcs RE=fcs L++[.string g0,.int .i64 g1,.int .i64 g2,.int .i64 g3,.string g4]/\RE.length=L.length+1):=⟨by rw [hE,Zy,HFf.out],by rw [hE,List.length_append];rfl⟩
    clear hdn HRE hE HRS HRL HR0 HFl HFc HFf;go_wp2_with fail
    go_region_law (first
     | (refine zsL _ rfl _ _ 31 rfl w3.heap.size 47 j0 (.agg #[.string ⟨#[]⟩,.int .i64 0,.int .i64 0,.int .i64 0,.string ⟨#[]⟩]) 5 56 U31 gi gz0 gz1 gz2 rfl (by decide) _ _ _ rfl (S2.o2.alloc _) ⟨w8.heap.size,0,none⟩ 1 1 [.string g0,.int .i64 g1,.int .i64 g2,.int .i64 g3,.string g4] rfl rfl (Zdw _ _ _ _ _ _ _) (one5 _ _ _ _ _) (by decide) (by unfold maxLen;omega) (by omega) (by simp;omega) _ rfl ?_;intro g7 cp7 w7 hown7 hgrow7 hat7 hlt7;obtain ⟨⟨q1,q2⟩,S4⟩:=S2.put2 hgrow7 hown7 hat7;clear hgrow7 hown7 hat7 hlt7)
     | (go_simp;go_at_call 39;refine (C4.out _ B2.drew).mono ?_;rintro e w8 ⟨rfl,G8⟩;have S2:=S1.below (Below.trans ((bR _ _).drew) G8);have c1T:=S2.c1;have hbT:=S2.hb;have c9T:∀ o,(w8.alloc o).cell? ⟨C,1,none⟩=some (.slice p2 L.length q2):=(fun o=>(cA _ _ _ hbT).trans c1T)))
    all_goals
     have F4:=F1.keep S4.bel hz;rw [<-HE.out.1,<-HE.out.2] at S4;rw [<-HE.out.2] at F4;clear a0 a1 r0 r1 z0 z1 F2 hz2 c1S f1S hbC hlC S1 S2 c1T hbT c9T G8 q1 q2;rw [<-HE.out.2];generalize (w7.setCell ⟨C,1,none⟩ (.slice (some ⟨g7,0,none⟩) RE.length cp7))=wS at *;obtain ⟨B4,a0,a1,r0,r1,z0,z1,hz2⟩:=id F4;have ne9:=S4.ne;have cc0:=S4.c0;have cc1:=S4.c1;have hC2:=S4.hb;by_cases hq:12<RE.length
     ·have hfin:=hQ0.out hq _ F4.b;have e2:decide ((12:Int)<(RE.length:Int))=true:=zdT (by omega);have e2':decide (12<RE.length)=true:=zdT hq;generalize RE.length=n at *;clear S4 hQ0 hQ1;go_wp2_with fail
      rw [F4.zero];exact bodyPost_ret (v:=.tuple #[.agg #[.slice none 0 0,.slice none 0 0],.int .i64 2]) (by simp [results,Tryz.results15,go_sem,F4.r0,F4.r1]) rfl hfin
     ·obtain ⟨Bz,Oz1,Oz2,Rz0,Rz1⟩:=ZaY F4.b S4.o1 S4.o2 hz F4.r0 F4.r1;have hfin:=hQ1.out hq _ _ _ Oz1 Oz2 ne9 Bz;have e2:decide ((12:Int)<(RE.length:Int))=false:=dF (by omega);have e2':decide (12<RE.length)=false:=dF hq;have hn12:RE.length<=12:=by omega
      generalize RE.length=n at *;clear S4 hQ0 hQ1 Oz1 Oz2 Bz hq;go_wp2_with fail
      generalize (wS.setCell ⟨w.heap.size+1,0,none⟩ (.slice (some ⟨g,0,none⟩) D cp)).setCell ⟨w.heap.size+1,1,none⟩ (.slice (some ⟨g7,0,none⟩) n cp7)=wz at *;exact bodyPost_ret (v:=.tuple #[.agg #[.slice (some ⟨g,0,none⟩) D cp,.slice (some ⟨g7,0,none⟩) n cp7],.int .i64 0]) (by simp [results,Tryz.results15,go_sem,Rz0,Rz1]) rfl hfin
theorem Zmk (ad af:Option Addr) (cd cf:Nat) (a:Ar.A) (name text:ByteArray) (dict:Int) (w:World) (h:ArV w ad af a) (hs:SaneA a) (hn:name.size<=140737488355328) :
 Calls Tryz.prog 15 #[av ad cd af cf a,.string name,.string text,.int .i64 dict] w fun e w'=>ArSaid w (Ar.putA a name text dict) (Ar.putE a name text dict) e w':=by
 have bad:∀ E:Int,E ≠ 0->Ar.putE a name text dict=E->Ar.putA a name text dict=Ar.az:=fun E h1 h2=>by unfold Ar.putA;rw [h2,if_neg h1]
 by_cases hc:Ar.chk a=0
 ·cases hm:Ar.isNm name with
  | false =>
   have e:Ar.putE a name text dict=4:=by unfold Ar.putE;rw [if_neg (fun h9=>h9 hc),if_pos hm]
   rw [bad 4 (by decide) e,e];exact ZoF ad af cd cf a name text dict w h hs hn hc hm
  | true =>
   cases hd:Ar.has a.dicts dict with
   | false =>
    have e:Ar.putE a name text dict=3:=by unfold Ar.putE;rw [if_neg (fun h9=>h9 hc),if_neg (by rw [hm];decide),if_pos hd]
    rw [bad 3 (by decide) e,e];exact Zlf ad af cd cf a name text dict w h hs hn hc hm hd
   | true =>
    by_cases hl:512<text.size
    ·have e:Ar.putE a name text dict=2:=by unfold Ar.putE;rw [if_neg (fun h9=>h9 hc),if_neg (by rw [hm];decide),if_neg (by rw [hd];decide),if_pos (.inl hl)]
     rw [bad 2 (by decide) e,e];exact Zkq ad af cd cf a name text dict w h hs hn hc hm hd hl
    ·obtain ⟨m1,m2,m3⟩:=Ar.Zw.1 (Ar.Ze.1 hc).1;have hrp:=Ar.ZpO (Ar.ZaX hc) (Ar.pk a.dicts name text dict);have hlen:=Ar.ZrQ a.files (Ar.pk a.dicts name text dict);have hnm:(Ar.pk a.dicts name text dict).name=name:=rfl;rw [hnm] at hlen;refine ZkD ad af cd cf a name text dict w h hs hn hc hm hd (by omega) _ _ ?_;rw [hrp]
     cases ht:Ar.ZK a.files name with
     | true =>
      rw [ht,if_pos rfl] at hlen
      have e:Ar.putE a name text dict=0:=by
       unfold Ar.putE;rw [if_neg (fun h9=>h9 hc),if_neg (by rw [hm];decide),if_neg (by rw [hd];decide),if_neg (by rw [ht];rintro (h9 | ⟨h9,_⟩);exact hl h9;cases h9)]
      rw [if_neg (by omega),Ar.ZlR e,e]
     | false =>
      rw [ht,if_neg (by decide)] at hlen;by_cases h12:a.files.length=12
      ·have e:Ar.putE a name text dict=2:=by
        unfold Ar.putE;rw [if_neg (fun h9=>h9 hc),if_neg (by rw [hm];decide),if_neg (by rw [hd];decide),if_pos (.inr ⟨ht,h12⟩)]
       rw [if_pos (by omega),bad 2 (by decide) e,e]
      ·have e:Ar.putE a name text dict=0:=by
        unfold Ar.putE;rw [if_neg (fun h9=>h9 hc),if_neg (by rw [hm];decide),if_neg (by rw [hd];decide),if_neg (by rintro (h9 | ⟨_,h9⟩);exact hl h9;exact h12 h9)]
       rw [if_neg (by omega),Ar.ZlR e,e]
 ·have e:Ar.putE a name text dict=Ar.chk a:=by unfold Ar.putE;rw [if_pos hc]
  rw [bad _ hc e,e];exact ZmL ad af cd cf a name text dict w h hs hc
theorem Zfc (ad af:Option Addr) (cd cf:Nat) (a:Ar.A) (name:ByteArray) (w:World) (h:FlSl w af a.files) (hn:a.files.length<=12) :
 Calls Tryz.prog 86 #[av ad cd af cf a,.string name] w fun e w'=>e=.returned (.int .i64 (match Ar.fatK a.files name a.files.length with | none=>-1 | some i=>(i:Int)))/\Below w.heap.size w w':=by
 have hb:=fun o=>(bR w.heap.size w).alloc (nl _) o
 have HFl:Hid (∀ w',Below w.heap.size w w'->∀ k,k<a.files.length->∃ b off,af=some ⟨b,off,none⟩/\b<w'.heap.size/\FlC w' b (off+k*5) (Ar.fa a.files k)):=fun w' h9 k hk=>(h.below h9).at hk
 obtain ⟨r,hr⟩:∃ r,(match Ar.fatK a.files name a.files.length with | none=>(-1:Int) | some i=>(i:Int))=r:=⟨_,rfl⟩
 rw [hr];have Hr:Hid ((match Ar.fatK a.files name a.files.length with | none=>(-1:Int) | some i=>(i:Int))=r):=hr;clear hr h;unfold av;generalize hN:a.files.length=N at *;have HN:Hid (a.files.length=N):=hN;clear hN;generalize a.dicts.length=D at *;have hNi:(N:Int)<=12:=by omega
 go_enter Tryz.func86,Tryz.ntmps86
 go_wp2_with fail
 have a1:(w.alloc (.cells #[.slice ad D cd,.slice af N cf] 33 (0,0))).cell? ⟨w.heap.size,1,none⟩=some (.slice af N cf):=cN _ _ _ 1;have B1:=hb (.cells #[.slice ad D cd,.slice af N cf] 33 (0,0));generalize (w.alloc (.cells #[.slice ad D cd,.slice af N cf] 33 (0,0)))=w1 at *;go_loopw [5] (fun i wr=>∃ k:Nat,k<=N/\i=.int .i64 k/\Hid (Ar.fatK a.files name k=none)/\wr=w1) (fun i _=>N - (intOf i).toNat)
 case atStart=>exact ⟨0,by omega,rfl,rfl,rfl⟩
 case round =>
  obtain ⟨k,hk2,rfl,HL,rfl⟩:=hrel;by_cases hlt:k<N
  ·have d1:decide ((k:Int)<(N:Int))=true:=by simp;omega
   have d1':decide (k<N)=true:=by simp;omega
   have hki:(k:Int)<(N:Int):=by omega
   obtain ⟨b,off,rfl,hbl,hcell⟩:=HFl.out wr B1 k hlt;obtain ⟨c0,c1,c2,c3,c4⟩:=hcell;have hbe:=Zdp (Ar.fa a.files k).name name;by_cases hd:(Ar.fa a.files k).name=name
   ·have HNx:Hid (Ar.fatK a.files name (k+1)=some k):=by show _=_;rw [Ar.fatK,HL.out];exact if_pos hd
    have HR:Hid ((k:Int)=r):=by
     have h9:=Ar.Zng HNx.out (N - (k+1));rw [show k+1+(N - (k+1))=N by omega] at h9;have:=Hr.out;rw [h9] at this;exact this
    rw [decide_eq_true hd] at hbe;clear HNx hd Hr HL;generalize (Ar.fa a.files k).name=f0 at *;go_wp2_with fail
    go_ret
    exact ⟨congrArg (fun x=>Ending.returned (Value.int .i64 x)) HR.out,B1⟩
   ·have HNx:Hid (Ar.fatK a.files name (k+1)=none):=by show _=_;rw [Ar.fatK,HL.out];exact if_neg hd
    rw [decide_eq_false hd] at hbe;clear hd;generalize (Ar.fa a.files k).name=f0 at *;go_wp2_with fail
    go_roundw
    case rel=>exact ⟨k+1,by omega,by go_num,HNx,by trivial⟩
    case measure=>simp [intOf];omega
  ·obtain rfl:k=N:=by omega
   have HR:Hid ((-1:Int)=r):=by have:=Hr.out;rw [HL.out] at this;exact this
   have d1:decide ((k:Int)<(k:Int))=false:=by simp
   clear Hr;go_wp2_with fail
   go_ret
   exact ⟨congrArg (fun x=>Ending.returned (Value.int .i64 x)) HR.out,B1⟩
namespace Ar
theorem Znz (fs:List F) (name:ByteArray):∀ k,(rdK fs name k).length<=k
 | 0=>by simp [rdK]
 | k+1=>by
  have ih:=Znz fs name k;rw [rdK];split
  ·omega
  ·simp only [List.length_append,List.length_cons,List.length_nil];omega
end Ar
theorem Zlk (ad af:Option Addr) (cd cf:Nat) (a:Ar.A) (name:ByteArray) (w:World) (h:ArV w ad af a) (hs:SaneA a) (hc:Ar.chk a ≠ 0) :
 Calls Tryz.prog 52 #[av ad cd af cf a,.string name] w fun e w'=>ArSaid w Ar.az (Ar.chk a) e w':=by
 have C1:Hid (∀ w',Below w.heap.size w w'->Calls Tryz.prog 36 #[av ad cd af cf a] w' fun e w2=>e=.returned (.int .i64 (Ar.chk a))/\Below w'.heap.size w' w2):=fun w' h9=>Zr ad af cd cf a w' (h.below h9) hs
 have hQ:Hid (∀ w',Below w.heap.size w w'->ArSaid w Ar.az (Ar.chk a) (.returned (.tuple #[.agg #[.slice none 0 0,.slice none 0 0],.int .i64 (Ar.chk a)])) w'):=fun w' h9=>Zx h9
 generalize ArSaid w Ar.az (Ar.chk a)=Q at *;unfold av at C1 |-
 generalize Ar.chk a=E at *;have e1:(E != 0)=true:=by simpa using hc
 have e2:(E == 0)=false:=by simpa using hc
 generalize a.dicts.length=D at *;generalize a.files.length=N at *;clear h hs hc;go_enter Tryz.func52,Tryz.ntmps52
 go_wp2_with fail
 refine (C1.out _ (Fr.start w _ _).b).mono ?_;rintro e w1 ⟨rfl,G1⟩;have F1:=(Fr.start w _ _).next G1;clear G1;obtain ⟨b,a0,a1,r0,r1,z0,z1,hz⟩:=id F1;go_wp2_with fail
 rw [F1.zero];exact bodyPost_ret (v:=.tuple #[.agg #[.slice none 0 0,.slice none 0 0],.int .i64 E]) (by simp [results,Tryz.results52,go_sem,F1.r0,F1.r1]) rfl (hQ.out _ F1.b)
theorem Zid (ad af:Option Addr) (cd cf:Nat) (a:Ar.A) (name:ByteArray) (w:World) (h:ArV w ad af a) (hs:SaneA a) (hc:Ar.chk a=0) (ht:Ar.ZK a.files name=false) :
 Calls Tryz.prog 52 #[av ad cd af cf a,.string name] w fun e w'=>ArSaid w Ar.az 5 e w':=by
 obtain ⟨m1,m2,m3⟩:=Ar.Zw.1 (Ar.Ze.1 hc).1;have C1:Hid (∀ w',Below w.heap.size w w'->Calls Tryz.prog 36 #[av ad cd af cf a] w' fun e w2=>e=.returned (.int .i64 (Ar.chk a))/\Below w'.heap.size w' w2):=fun w' h9=>Zr ad af cd cf a w' (h.below h9) hs
 have C2:Hid (∀ w',Below w.heap.size w w'->Calls Tryz.prog 86 #[av ad cd af cf a,.string name] w' fun e w2=>e=.returned (.int .i64 (match Ar.fatK a.files name a.files.length with | none=>-1 | some i=>(i:Int)))/\Below w'.heap.size w' w2):=fun w' h9=>Zfc ad af cd cf a name w' (h.fs.below h9) m2
 rw [Ar.Zqx (Ar.ZaX hc) name,ht,if_neg (by decide)] at C2;simp only at C2;rw [hc] at C1;have hQ:Hid (∀ w',Below w.heap.size w w'->ArSaid w Ar.az 5 (.returned (.tuple #[.agg #[.slice none 0 0,.slice none 0 0],.int .i64 5])) w'):=fun w' h9=>Zx h9
 generalize ArSaid w Ar.az 5=Q at *;unfold av at C1 C2 |-
 generalize a.dicts.length=D at *;generalize a.files.length=N at *;clear h hs hc ht m3;go_enter Tryz.func52,Tryz.ntmps52
 go_wp2_with fail
 refine (C1.out _ (Fr.start w _ _).b).mono ?_;rintro e w1 ⟨rfl,G1⟩;have F1:=(Fr.start w _ _).next G1;clear G1;obtain ⟨b,a0,a1,r0,r1,z0,z1,hz⟩:=id F1;go_wp2_with fail
 refine (C2.out _ F1.b).mono ?_;rintro e w2 ⟨rfl,G⟩;have F2:=F1.next G;clear b a0 a1 r0 r1 z0 z1 hz;obtain ⟨b,a0,a1,r0,r1,z0,z1,hz⟩:=id F2;go_wp2_with fail
 rw [F2.zero];exact bodyPost_ret (v:=.tuple #[.agg #[.slice none 0 0,.slice none 0 0],.int .i64 5]) (by simp [results,Tryz.results52,go_sem,F2.r0,F2.r1]) rfl (hQ.out _ F2.b)
theorem ZlC (ad af:Option Addr) (cd cf:Nat) (a:Ar.A) (name:ByteArray) (w:World) (h:ArV w ad af a) (hs:SaneA a) (hc:Ar.chk a=0) (ht:Ar.ZK a.files name=true) :
 Calls Tryz.prog 52 #[av ad cd af cf a,.string name] w fun e w'=>ArSaid w ⟨a.dicts,Ar.rdK a.files name a.files.length⟩ 0 e w':=by
 obtain ⟨i0,hi,hz0,hz1,hz2⟩:=info_parts (P:=Tryz.prog) (e:=9) (z:=.string ⟨#[]⟩) (size:=1) (bytes:=16) (by kernel_rfl);obtain ⟨j0,gi,gz0,gz1,gz2⟩:=info_parts (P:=Tryz.prog) (e:=47) (z:=.agg #[.string ⟨#[]⟩,.int .i64 0,.int .i64 0,.int .i64 0,.string ⟨#[]⟩]) (size:=5) (bytes:=56) (by kernel_rfl);obtain ⟨m1,m2,m3⟩:=Ar.Zw.1 (Ar.Ze.1 hc).1;have C1:Hid (∀ w',Below w.heap.size w w'->Calls Tryz.prog 36 #[av ad cd af cf a] w' fun e w2=>e=.returned (.int .i64 (Ar.chk a))/\Below w'.heap.size w' w2):=fun w' h9=>Zr ad af cd cf a w' (h.below h9) hs
 have C2:Hid (∀ w',Below w.heap.size w w'->Calls Tryz.prog 86 #[av ad cd af cf a,.string name] w' fun e w2=>e=.returned (.int .i64 (match Ar.fatK a.files name a.files.length with | none=>-1 | some i=>(i:Int)))/\Below w'.heap.size w' w2):=fun w' h9=>Zfc ad af cd cf a name w' (h.fs.below h9) m2
 have hp:=(Ar.ZX ht).1;rw [Ar.Zqx (Ar.ZaX hc) name,ht,if_pos rfl] at C2;simp only at C2;rw [hc] at C1;have HDn:Hid (∀ w',Below w.heap.size w w'->(a.dicts.length=0\/∃ b,ad=some b/\∀ j u,(a.dicts.map Value.string)[j]?=some u->w'.cell? (b.add j)=some u)):=fun w' h9=>(h.ds.below h9).news
 have HFl:Hid (∀ k,k<a.files.length->∃ b off,af=some ⟨b,off,none⟩/\b<w.heap.size/\Hid (∀ w',Below w.heap.size w w'->w'.cell? ⟨b,off+k*5,none⟩=some (.string (Ar.fa a.files k).name)/\w'.cell? ⟨b,off+k*5+1,none⟩=some (.int .i64 (Ar.fa a.files k).dict)/\w'.cell? ⟨b,off+k*5+2,none⟩=some (.int .i64 (Ar.fa a.files k).size)/\w'.cell? ⟨b,off+k*5+3,none⟩=some (.int .i64 (Ar.fa a.files k).sum)/\w'.cell? ⟨b,off+k*5+4,none⟩=some (.string (Ar.fa a.files k).blk))):=fun k hk=>by
  obtain ⟨b,off,h1,h2,h3⟩:=h.fs.at hk;refine ⟨b,off,h1,h2,fun w' h9=>?_⟩;obtain ⟨k0,k1,k2,k3,k4⟩:=h3.below h9 h2;exact ⟨k0,k1,k2,k3,k4⟩
 have HDl:Hid ((a.dicts.map Value.string).length=a.dicts.length*1):=by show _=_;simp
 have HD1:Hid (∀ u ∈ a.dicts.map Value.string,u.oneCell'=true):=fun u hu=>by obtain ⟨x,_,rfl⟩:=List.mem_map.1 hu;rfl
 have hQ1:Hid (∀ v1 v2 w',w'.ownsRow w.heap.size 9 1 v1 a.dicts.length (a.dicts.map Value.string)->w'.ownsRow w.heap.size 47 5 v2 (Ar.rdK a.files name a.files.length).length (fcs (Ar.rdK a.files name a.files.length))->(∀ j,v1.ownBlock=some j->v2.ownBlock ≠ some j)->Below w.heap.size w w'->ArSaid w ⟨a.dicts,Ar.rdK a.files name a.files.length⟩ 0 (.returned (.tuple #[.agg #[v1,v2],.int .i64 0])) w'):=fun v1 v2 w' k1 k2 k3 k4=>⟨v1,v2,rfl,⟨k1,k2,k3⟩,k4⟩
 generalize ArSaid w ⟨a.dicts,Ar.rdK a.files name a.files.length⟩ 0=Q at *
 have HRS:Hid (∀ k,((Ar.fa a.files k).name=name->Ar.rdK a.files name (k+1)=Ar.rdK a.files name k)/\((Ar.fa a.files k).name ≠ name->Ar.rdK a.files name (k+1)=Ar.rdK a.files name k++[Ar.fa a.files k])):=fun k=>⟨fun h9=>by rw [Ar.rdK,if_pos h9],fun h9=>by rw [Ar.rdK,if_neg h9]⟩
 have HRL:Hid (∀ k,(Ar.rdK a.files name k).length<=k):=Ar.Znz a.files name;have HR0:Hid (Ar.rdK a.files name 0=[]):=rfl;generalize Ar.rdK a.files name=rp at *;generalize Ar.pos a.files name=ps at *;have HFc:Hid (∀ k,fcs [Ar.fa a.files k]=[.string (Ar.fa a.files k).name,.int .i64 (Ar.fa a.files k).dict,.int .i64 (Ar.fa a.files k).size,.int .i64 (Ar.fa a.files k).sum,.string (Ar.fa a.files k).blk]):=fun k=>rfl
 unfold av at C1 C2 |-
 clear h hs hc ht m3
 obtain ⟨D,hDD⟩:∃ D,a.dicts.length=D:=⟨_,rfl⟩
 obtain ⟨N,hNN⟩:∃ N,a.files.length=N:=⟨_,rfl⟩
 simp only [hDD,hNN] at C1 C2 HDn HFl HDl hQ1 m1 m2 hp |-
 clear hDD hNN;generalize a.dicts.map Value.string=ds at *;generalize Ar.fa a.files=fa at *;have hDi:(D:Int)<=4:=by omega
 have hNi:(N:Int)<=12:=by omega
 have dps:decide ((ps:Int)<0)=false:=dF (by omega);go_enter Tryz.func52,Tryz.ntmps52
 go_wp2_with fail
 refine (C1.out _ (Fr.start w _ _).b).mono ?_;rintro e w1 ⟨rfl,G1⟩;have F1:=(Fr.start w _ _).next G1;clear G1;obtain ⟨b,a0,a1,r0,r1,z0,z1,hz⟩:=id F1;go_wp2_with fail
 refine (C2.out _ F1.b).mono ?_;rintro e w3 ⟨rfl,G⟩;have F3:=F1.next G;clear b a0 a1 r0 r1 z0 z1 hz F1 G C1 C2;obtain ⟨b,a0,a1,r0,r1,z0,z1,hz⟩:=id F3;have hz9:w.heap.size<w3.heap.size:=by omega
 have O0:=Zco w3 w3.heap.size 9 1 (nl _);have hD2:=HDn.out _ (F3.b.alloc (by have:=F3.b.size;omega) (.cells #[] 9 (0,0)));have hds1:=HDl.out;have hds2:=HD1.out
 go_wp2_with (first
  | (at_builtin;refine Zac rfl _ _ 30 rfl w3.heap.size 9 i0 (.string ⟨#[]⟩) 1 16 U30 hi hz0 hz1 hz2 rfl (by decide) w3.heap.size 0 0 [] rfl O0 ad D cd ds rfl hds1 hD2 hds2 (by unfold maxLen;omega) (by omega) (by simp) _ rfl ?_;intro g cp w5 hown5 hgrow5 hat5)
  | fail)
 have BX:Below w3.heap.size w3 w5:=((bR _ _).alloc (nl _) _).grown hgrow5 (by simp) (fun j hj=>by simp at hj;omega);simp only [Nat.zero_add,List.nil_append] at hown5 |-
 have S0:=CpS.new1 BX BX.size hown5;clear O0 hD2 hds1 hds2 hgrow5 hat5 hown5 HDn HDl HD1 BX a0 a1 r0 r1 z0 z1 b;generalize (w5.alloc (.cells #[.slice (some ⟨g,0,none⟩) D cp,.slice none 0 0] 33 (0,0)))=w6 at *;generalize w5.heap.size=C at *;go_loopw [8] (fun i wr=>∃ (k:Nat) (v2:Value),k<=N/\i=.int .i64 k/\CpS w3 wr C w3.heap.size (.slice (some ⟨g,0,none⟩) D cp) v2 D (rp k).length ds (fcs (rp k))) (fun i _=>N - (intOf i).toNat)
 case atStart=>exact ⟨0,_,by omega,rfl,by rw [HR0.out];exact S0⟩
 case round =>
  obtain ⟨k,v2,hk2,rfl,S1⟩:=hrel;have F2:=F3.keep S1.bel hz;obtain ⟨B2,a0,a1,r0,r1,z0,z1,hz2⟩:=id F2;by_cases hlt:k<N
  ·have e1:decide ((k:Int)<(N:Int))=true:=zdT (by omega);have e1':decide (k<N)=true:=zdT hlt;have hki:(k:Int)<(N:Int):=by omega
   obtain ⟨b,off,rfl,hbw,HFw⟩:=HFl.out k hlt;obtain ⟨c0,c1,c2,c3,c4⟩:=HFw.out wr B2;have hbl:b<wr.heap.size:=nT hbw B2.size;have HRk:=HRS.out k;have HFk:=HFc.out k;have HLk:=HRL.out k;have hbe:=Zdp (fa k).name name;by_cases hnm:(fa k).name=name
   ·rw [decide_eq_true hnm] at hbe;have HN:Hid (rp (k+1)=rp k):=HRk.1 hnm;clear HRk;generalize (fa k).name=f0 at *;subst hnm;go_wp2_with fail
    go_roundw
    case rel=>exact ⟨k+1,_,by omega,by go_num,by rw [HN.out];exact S1⟩
    case measure=>simp [intOf];omega
   ·rw [decide_eq_false hnm] at hbe;have HN:Hid (rp (k+1)=rp k++[fa k]):=HRk.2 hnm;clear HRk hnm;generalize rp k=L at *;have c1S:=S1.c1;have f1S:=S1.f1;have hbC:=S1.hb;have hlC:=S1.hC;obtain ⟨p2,q2,rfl,_⟩:=Zi S1.o2;have S9:=S1.below ((bR _ _).drew);generalize (fa k).name=f0 at *;generalize (fa k).dict=f1 at *;generalize (fa k).size=f2 at *;generalize (fa k).sum=f3 at *;generalize (fa k).blk=f4 at *;go_wp2_with fail
    go_region_law (first
     | (refine zsL _ rfl _ _ 31 rfl w3.heap.size 47 j0 (.agg #[.string ⟨#[]⟩,.int .i64 0,.int .i64 0,.int .i64 0,.string ⟨#[]⟩]) 5 56 U31 gi gz0 gz1 gz2 rfl (by decide) _ _ _ rfl (S9.o2.alloc _) ⟨wr.drew.heap.size,0,none⟩ 1 1 [.string f0,.int .i64 f1,.int .i64 f2,.int .i64 f3,.string f4] rfl rfl (Zdw _ _ _ _ _ _ _) (one5 _ _ _ _ _) (by decide) (by unfold maxLen;omega) (by omega) (by simp;omega) _ rfl ?_;intro g9 cp9 w9 hown7 hgrow7 hat7 hlt7;obtain ⟨⟨q1,q2⟩,S10⟩:=S9.put2 hgrow7 hown7 hat7;clear hgrow7 hown7 hat7 hlt7))
    all_goals
     go_wp2_with fail
     go_roundw
     case rel=>exact ⟨k+1,_,by omega,by go_num,by rw [HN.out];simp only [List.length_append,List.length_cons,List.length_nil,Zy,HFk];exact S10⟩
     case measure=>simp [intOf];omega
  ·obtain rfl:k=N:=by omega
   have e1:decide ((k:Int)<(k:Int))=false:=by simp
   have ne9:=S1.ne;have cc0:=S1.c0;have cc1:=S1.c1;have hC2:=S1.hb;obtain ⟨Bz,Oz1,Oz2,Rz0,Rz1⟩:=ZaY F2.b S1.o1 S1.o2 hz F2.r0 F2.r1;have hfin:=hQ1.out _ _ _ Oz1 Oz2 ne9 Bz;obtain ⟨p2,q2,rfl,_⟩:=Zi S1.o2;generalize rp k=RE at *;generalize RE.length=n at *;clear S1 hQ1 Oz1 Oz2 Bz;go_wp2_with fail
   generalize (wr.setCell ⟨w.heap.size+1,0,none⟩ (.slice (some ⟨g,0,none⟩) D cp)).setCell ⟨w.heap.size+1,1,none⟩ (.slice p2 n q2)=wz at *;exact bodyPost_ret (v:=.tuple #[.agg #[.slice (some ⟨g,0,none⟩) D cp,.slice p2 n q2],.int .i64 0]) (by simp [results,Tryz.results52,go_sem,Rz0,Rz1]) rfl hfin
theorem Zkf (ad af:Option Addr) (cd cf:Nat) (a:Ar.A) (name:ByteArray) (w:World) (h:ArV w ad af a) (hs:SaneA a) :
 Calls Tryz.prog 52 #[av ad cd af cf a,.string name] w fun e w'=>ArSaid w (Ar.Zbw a name) (Ar.getE a name) e w':=by
 by_cases hc:Ar.chk a=0
 ·cases ht:Ar.ZK a.files name with
  | false =>
   have e:Ar.getE a name=5:=by unfold Ar.getE;rw [if_neg (fun h9=>h9 hc),if_neg (by rw [ht];decide)]
   have e2:Ar.Zbw a name=Ar.az:=by unfold Ar.Zbw;rw [e,if_neg (by decide)]
   rw [e,e2];exact Zid ad af cd cf a name w h hs hc ht
  | true =>
   have e:Ar.getE a name=0:=by unfold Ar.getE;rw [if_neg (fun h9=>h9 hc),if_pos ht]
   rw [Ar.ZoU e,e,<-Ar.Zuy (Ar.ZaX hc) ht];exact ZlC ad af cd cf a name w h hs hc ht
 ·have e:Ar.getE a name=Ar.chk a:=by unfold Ar.getE;rw [if_pos hc]
  have e2:Ar.Zbw a name=Ar.az:=by unfold Ar.Zbw;rw [e,if_neg hc]
  rw [e,e2];exact Zlk ad af cd cf a name w h hs hc
end Go.Proofs.YtbjbjbpgmojcbacGreat
