/- A part of the proof: what it leans on. -/
import Derived.Deep.RegionLaw
import Derived.OrdersHeld
import Derived.Deep.RegionHeld3
import Derived.Deep.Slices
import Derived.SizedLaws
import Derived.Carry
import Derived.ChangeSame
import Derived.Test.YtbjbjbpgmojcbacGreatR08
import Derived.Test.YtbjbjbpgmojcbacGreatR12
import Derived.Test.YtbjbjbpgmojcbacGreatR15
set_option maxRecDepth 100000
set_option maxHeartbeats 8000000
namespace Go.Proofs.YtbjbjbpgmojcbacGreat
open Go.RowKit
theorem hid_of {p:Prop} (h:p):Hid p:=h
def Ar.anyK (fs:List Ar.F) (n:Int):Nat->Bool
 | 0=>false
 | k+1=>Ar.anyK fs n k || decide ((Ar.fa fs k).dict=n)
theorem anyK_is {fs:List Ar.F} {n:Int}:∀ {k:Nat},k<=fs.length->(Ar.anyK fs n k=(fs.take k).any fun f=>decide (f.dict=n))
 | 0,_=>by simp [Ar.anyK]
 | k+1,h=>by
  rw [Ar.anyK,anyK_is (by omega),Ar.take_succ' (by omega),List.any_append]
  simp
theorem anyK_used {a:Ar.A} {n:Int}:Ar.anyK a.files n a.files.length=Ar.used a n:=by
 rw [anyK_is (Nat.le_refl _),List.take_length];rfl
theorem fcs_get:∀ (fs:List Ar.F) (i r:Nat),i<fs.length->r<5->(fcs fs)[i*5+r]?=(fc (Ar.fa fs i))[r]?
 | f :: fs,0,r,_,hr=>by
  rw [fcs,List.getElem?_append_left (by simp;omega)]
  simp only [Nat.zero_mul,Nat.zero_add]
  rfl
 | f :: fs,i+1,r,h,hr=>by
  have ih:=fcs_get fs i r (by simpa using h) hr
  rw [fcs,List.getElem?_append_right (by simp;omega)]
  have e:(i+1)*5+r - ([.string f.name,.int .i64 f.dict,.int .i64 f.size,.int .i64 f.sum,.string f.blk]:List Value).length=i*5+r:=by simp;omega
  rw [e,ih]
  rfl
theorem FlSl.news {w:World} {ad:Option Addr} {l:List Ar.F} (h:FlSl w ad l):l.length=0\/∃ b,ad=some b/\∀ j u,(fcs l)[j]?=some u->w.cell? (b.add j)=some u:=by
 rcases h with rfl | ⟨b,off,rfl,_,h⟩
 · exact .inl rfl
 · refine .inr ⟨_,rfl,fun j u hj=>?_⟩
   rw [addr_off]
   have hl:j<l.length*5:=by
    rcases Nat.lt_or_ge j (l.length*5) with h9 | h9
    · exact h9
    · rw [List.getElem?_eq_none (by rw [fcs_len];exact h9)] at hj;cases hj
   have hi:j / 5<l.length:=by omega
   have e:j=j / 5*5+j % 5:=by omega
   have hr:j % 5<5:=by omega
   obtain ⟨c0,c1,c2,c3,c4⟩:=h (j / 5) hi
   rw [e,fcs_get l (j / 5) (j % 5) hi hr] at hj
   rw [e,<-Nat.add_assoc]
   generalize j / 5=i at *
   generalize j % 5=r at *
   match r,hr with
   | 0,_=>rw [Nat.add_zero,c0];exact hj
   | 1,_=>rw [c1];exact hj
   | 2,_=>rw [c2];exact hj
   | 3,_=>rw [c3];exact hj
   | 4,_=>rw [c4];exact hj
theorem cpF_none (a:Ar.A):a.files.map (Ar.cpF a 0)=a.files:=by
 conv=>rhs;rw [<-List.map_id a.files]
 refine List.map_congr_left (fun f _=>?_)
 unfold Ar.cpF
 rw [if_neg (by omega)]
 rfl
end Go.Proofs.YtbjbjbpgmojcbacGreat
namespace Go.Proofs.YtbjbjbpgmojcbacGreat
open Go.RowKit
theorem compactOf_chk (ad af:Option Addr) (cd cf:Nat) (a:Ar.A) (w:World) (h:ArV w ad af a) (hs:SaneA a) (hc:Ar.chk a ≠ 0) :
 Calls Tryz.prog 17 #[av ad cd af cf a] w fun e w'=>ArSaid w Ar.az (Ar.chk a) e w':=by
 have C1:Hid (∀ w',Below w.heap.size w w'->Calls Tryz.prog 36 #[av ad cd af cf a] w' fun e w2=>e=.returned (.int .i64 (Ar.chk a))/\Below w'.heap.size w' w2):=fun w' h9=>checkArch_any ad af cd cf a w' (h.below h9) hs
 have hQ:Hid (∀ w',Below w.heap.size w w'->ArSaid w Ar.az (Ar.chk a) (.returned (.tuple #[.agg #[.slice none 0 0,.slice none 0 0],.int .i64 (Ar.chk a)])) w'):=fun w' h9=>said_nil h9
 generalize ArSaid w Ar.az (Ar.chk a)=Q at *
 unfold av at C1 |-
 generalize Ar.chk a=E at *
 have e1:(E != 0)=true:=by simpa using hc
 have e2:(E == 0)=false:=by simpa using hc
 generalize a.dicts.length=D at *
 generalize a.files.length=N at *
 clear h hs hc
 go_enter Tryz.func17,Tryz.ntmps17
 go_wp2_with fail
 refine (C1.out _ (Fr.start w _ _).b).mono ?_
 rintro e w1 ⟨rfl,G1⟩
 have F1:=(Fr.start w _ _).next G1
 clear G1
 obtain ⟨b,a0,a1,r0,r1,z0,z1,hz⟩:=id F1
 go_wp2_with fail
 rw [F1.zero]
 exact bodyPost_ret (v:=.tuple #[.agg #[.slice none 0 0,.slice none 0 0],.int .i64 E]) (by simp [results,Tryz.results17,go_sem,F1.r0,F1.r1]) rfl (hQ.out _ F1.b)
theorem compactOf_ok (ad af:Option Addr) (cd cf:Nat) (a:Ar.A) (w:World) (h:ArV w ad af a) (hs:SaneA a) (hc:Ar.chk a=0) :
 Calls Tryz.prog 17 #[av ad cd af cf a] w fun e w'=>ArSaid w ⟨Ar.cpD a a.dicts.length,a.files.map (Ar.cpF a a.dicts.length)⟩ 0 e w':=by
 obtain ⟨i0,hi,hz0,hz1,hz2⟩:=info_parts (P:=Tryz.prog) (e:=9) (z:=.string ⟨#[]⟩) (size:=1) (bytes:=16) (by kernel_rfl)
 obtain ⟨j0,gi,gz0,gz1,gz2⟩:=info_parts (P:=Tryz.prog) (e:=47) (z:=.agg #[.string ⟨#[]⟩,.int .i64 0,.int .i64 0,.int .i64 0,.string ⟨#[]⟩]) (size:=5) (bytes:=56) (by kernel_rfl)
 obtain ⟨m1,m2,m3⟩:=Ar.many_iff.1 (Ar.chk_zero.1 hc).1
 have C1:Hid (∀ w',Below w.heap.size w w'->Calls Tryz.prog 36 #[av ad cd af cf a] w' fun e w2=>e=.returned (.int .i64 (Ar.chk a))/\Below w'.heap.size w' w2):=fun w' h9=>checkArch_any ad af cd cf a w' (h.below h9) hs
 have HX:Hid (∀ w',Below w.heap.size w w'->∀ k,k<a.dicts.length->∃ b off,ad=some ⟨b,off,none⟩/\b<w'.heap.size/\w'.cell? ⟨b,off+k,none⟩=some (.string (Tr.xa a.dicts k))):=fun w' hb k hk=>(h.ds.below hb).at hk
 have HFl:Hid (∀ w',Below w.heap.size w w'->∀ k,k<a.files.length->∃ b off,af=some ⟨b,off,none⟩/\b<w'.heap.size/\w'.cell? ⟨b,off+k*5+1,none⟩=some (.int .i64 (Ar.fa a.files k).dict)):=fun w' h9 k hk=>by
  obtain ⟨b,off,h1,h2,h3⟩:=(h.fs.below h9).at hk
  exact ⟨b,off,h1,h2,h3.c1⟩
 have HFn:Hid (∀ w',Below w.heap.size w w'->(a.files.length=0\/∃ b,af=some b/\∀ j u,(fcs a.files)[j]?=some u->w'.cell? (b.add j)=some u)):=fun w' h9=>(h.fs.below h9).news
 have HF1:Hid ((fcs a.files).length=a.files.length*5):=fcs_len _
 have HF2:Hid (∀ u ∈ fcs a.files,u.oneCell'=true):=fcs_one _
 rw [hc] at C1
 unfold av at C1 |-
 obtain ⟨D,hD⟩:∃ D,a.dicts.length=D:=⟨_,rfl⟩
 obtain ⟨N,hN⟩:∃ N,a.files.length=N:=⟨_,rfl⟩
 have HNN:Hid (a.files.length=N):=hN
 rw [hD] at C1 HX m1 |-
 rw [hN] at C1 HFl HFn HF1 m2 |-
 have hQ:Hid (∀ v1 v2 w',w'.ownsRow w.heap.size 9 1 v1 (Ar.cpD a D).length ((Ar.cpD a D).map Value.string)->w'.ownsRow w.heap.size 47 5 v2 N (fcs (a.files.map (Ar.cpF a D)))->(∀ j,v1.ownBlock=some j->v2.ownBlock ≠ some j)->Below w.heap.size w w'->ArSaid w ⟨Ar.cpD a D,a.files.map (Ar.cpF a D)⟩ 0 (.returned (.tuple #[.agg #[v1,v2],.int .i64 0])) w'):=fun v1 v2 w' k1 k2 k3 k4=>⟨v1,v2,rfl,⟨k1,by show w'.ownsRow _ _ _ _ (a.files.map (Ar.cpF a D)).length _;rw [List.length_map,hN];exact k2,k3⟩,k4⟩
 generalize ArSaid w ⟨Ar.cpD a D,a.files.map (Ar.cpF a D)⟩ 0=Q at *
 have HI0:Hid (∀ k,fcs (a.files.map (Ar.cpF a k))=fcs (Ar.cpI a k 0)):=fun k=>by rw [Ar.cpI_zero]
 have HIN:Hid (∀ k,fcs (Ar.cpI a k N)=fcs (a.files.map (Ar.cpF a (k+1)))):=fun k=>by rw [<-hN,Ar.cpI_end]
 have H0:Hid (fcs (a.files.map (Ar.cpF a 0))=fcs a.files):=by show _=_;rw [cpF_none]
 clear h hs hc m3 hD hN
 have hDi:(D:Int)<=4:=by omega
 have hNi:(N:Int)<=12:=by omega
 generalize hFS:fcs a.files=FS at *
 clear hFS
 go_enter Tryz.func17,Tryz.ntmps17
 go_wp2_with fail
 refine (C1.out _ (Fr.start w _ _).b).mono ?_
 rintro e w3 ⟨rfl,G1⟩
 have F1:=(Fr.start w _ _).next G1
 clear G1 C1
 obtain ⟨b,a0,a1,r0,r1,z0,z1,hz⟩:=id F1
 have hz9:w.heap.size<w3.heap.size:=by omega
 have O0:=own_empty w3 w3.heap.size 47 5 (Nat.le_refl _)
 have hD2:=HFn.out _ (F1.b.alloc (by have:=F1.b.size;omega) (.cells #[] 47 (0,0)))
 have hds1:=HF1.out
 have hds2:=HF2.out
 go_wp2_with (first
  | (at_builtin;refine wpList_append_all rfl _ _ 31 rfl w3.heap.size 47 j0 (.agg #[.string ⟨#[]⟩,.int .i64 0,.int .i64 0,.int .i64 0,.string ⟨#[]⟩]) 5 56 Tryz.underlying31 gi gz0 gz1 gz2 rfl (by decide) w3.heap.size 0 0 [] rfl O0 af N cf FS rfl hds1 hD2 hds2 (by unfold maxLen;omega) (by omega) (by simp) _ rfl ?_;intro g2 cp2 w5 hown5 hgrow5 hat5)
  | fail)
 have BX:Below w3.heap.size w3 w5:=((Below.refl _ _).alloc (Nat.le_refl _) _).grown hgrow5 (by simp) (fun j hj=>by simp at hj;omega)
 simp only [Nat.zero_add,List.nil_append] at hown5 |-
 have S0:=CpS.new2 BX BX.size hown5
 clear O0 hD2 hds1 hds2 hgrow5 hat5 hown5 HFn HF1 HF2 BX a0 a1 r0 r1 z0 z1 b
 generalize (w5.alloc (.cells #[.slice none 0 0,.slice (some ⟨g2,0,none⟩) N cp2] 33 (0,0)))=w6 at *
 generalize w5.heap.size=C at *
 go_loopw [6] (fun i wr=>∃ (k:Nat) (v1:Value),k<=D/\i=.int .i64 ((k:Int)+1)/\CpS w3 wr C w3.heap.size v1 (.slice (some ⟨g2,0,none⟩) N cp2) (Ar.cpD a k).length N ((Ar.cpD a k).map Value.string) (fcs (a.files.map (Ar.cpF a k)))) (fun i _=>D+1 - (intOf i).toNat)
 case atStart=>exact ⟨0,_,by omega,rfl,by rw [H0.out];exact S0⟩
 case round =>
  clear S0
  obtain ⟨k,v1,hk2,rfl,S1⟩:=hrel
  have F7:=F1.keep S1.bel hz
  obtain ⟨B7,a0,a1,r0,r1,z0,z1,hz7⟩:=id F7
  by_cases hlt:k<D
  · have d1:decide ((k:Int)+1<=(D:Int))=true:=decide_eq_true (by omega)
    have hki:(k:Int)+1<=(D:Int):=by omega
    have hkD:(k:Int)<(D:Int):=by omega
    have hwk2:IntKind.i64.wrap (k:Int)=(k:Int):=IntWalk.i64_in _ ⟨by omega,by omega⟩
    have hwk:IntKind.i64.wrap ((k:Int)+1 - 1)=(k:Int):=by rw [show (k:Int)+1 - 1=(k:Int) by omega];exact IntWalk.i64_in _ ⟨by omega,by omega⟩
    obtain ⟨b9,off,rfl,hbl,hc⟩:=HX.out wr B7 k hlt
    generalize hX:Tr.xa a.dicts k=X at *
    have HXX:Hid (Tr.xa a.dicts k=X):=hX
    clear hX
    have HAk:Hid (∀ m,Ar.anyK a.files ((k:Int)+1) (m+1)=(Ar.anyK a.files ((k:Int)+1) m || decide ((Ar.fa a.files m).dict=(k:Int)+1))):=fun m=>rfl
    have HA0:Hid (Ar.anyK a.files ((k:Int)+1) 0=false):=rfl
    have HAN:Hid (Ar.anyK a.files ((k:Int)+1) N=Ar.used a ((k+1:Nat):Int)):=by show _=_;rw [<-HNN.out];exact anyK_used
    generalize Ar.anyK a.files ((k:Int)+1)=ak at *
    go_wp2_with fail
    generalize hwr:wr=wk at *
    clear hwr
    go_loopw [7,8] (fun u i w'=>∃ m:Nat,m<=N/\u=.bool (ak m)/\i=.int .i64 m/\w'=wk) (fun _ i _=>N - (intOf i).toNat)
    case atStart=>exact ⟨0,by omega,by rw [HA0.out],rfl,rfl⟩
    case round =>
     obtain ⟨m,hm2,rfl,rfl,hwr⟩:=hrel
     have hwr:=hwr.symm
     subst hwr
     by_cases hlm:m<N
     · have d2:decide ((m:Int)<(N:Int))=true:=decide_eq_true (by omega)
       have d2':decide (m<N)=true:=decide_eq_true hlm
       have hmi:(m:Int)<(N:Int):=by omega
       obtain ⟨bf,of,rfl,hbf,c1⟩:=HFl.out _ B7 m hlm
       have HAm:=hid_of (HAk.out m)
       generalize (Ar.fa a.files m).dict=f1 at *
       cases hu:ak m with
       | true =>
        have HN:Hid (ak (m+1)=true):=by show _=_;rw [HAm.out,hu];rfl
        clear hu HAm
        go_wp2_with fail
        go_roundw
        case rel=>exact ⟨m+1,by omega,by rw [HN.out],by go_num,by trivial⟩
        case measure=>simp [intOf];omega
       | false =>
        by_cases hdx:f1=(k:Int)+1
        · have HN:Hid (ak (m+1)=true):=by show _=_;rw [HAm.out,hu,decide_eq_true hdx];rfl
          subst hdx
          clear hu HAm
          go_wp2_with fail
          go_roundw
          case rel=>exact ⟨m+1,by omega,by rw [HN.out],by go_num,by trivial⟩
          case measure=>simp [intOf];omega
        · have HN:Hid (ak (m+1)=false):=by show _=_;rw [HAm.out,hu,decide_eq_false hdx];rfl
          have e1:(f1 == ((k:Int)+1))=false:=by simpa using hdx
          clear hu HAm
          go_wp2_with fail
          go_roundw
          case rel=>exact ⟨m+1,by omega,by rw [HN.out],by go_num,by trivial⟩
          case measure=>simp [intOf];omega
     · obtain rfl:m=N:=by omega
       have d2:decide ((m:Int)<(m:Int))=false:=by simp
       have hak:=HAN.out
       rw [hak]
       clear hak HAk HA0 HAN
       cases hu:Ar.used a ((k+1:Nat):Int) with
       | false =>
        obtain ⟨e1,e2⟩:=Ar.cp_skip hu
        have HE1:Hid (Ar.cpD a (k+1)=Ar.cpD a k):=e1
        have HE2:Hid (a.files.map (Ar.cpF a (k+1))=a.files.map (Ar.cpF a k)):=e2
        clear e1 e2 hu
        go_wp2_with fail
        go_roundw
        case rel=>exact ⟨k+1,v1,by omega,by go_num,by rw [HE1.out,HE2.out];exact S1⟩
        case measure=>simp [intOf];omega
       | true =>
        have HE1:Hid (Ar.cpD a (k+1)=Ar.cpD a k++[X]):=by show _=_;rw [Ar.cp_take hu,HXX.out]
        clear hu
        obtain ⟨L,hL⟩:∃ L,(Ar.cpD a k).length=L:=⟨_,rfl⟩
        have hL4:L<=4:=by
         have e1:=Ar.cpD_len a k
         have e2:=Ar.rkK_le a k
         omega
        have HL1:Hid ((Ar.cpD a (k+1)).length=L+1):=by show _=_;rw [HE1.out,List.length_append,hL];rfl
        have HM1:Hid ((Ar.cpD a (k+1)).map Value.string=(Ar.cpD a k).map Value.string++[.string X]):=by show _=_;rw [HE1.out,List.map_append];rfl
        have HY:Hid (∀ q,q<m->(Ar.fa a.files q).dict=(k:Int)+1->fcs (Ar.cpI a k (q+1))=fcs ((Ar.cpI a k q).take q++{ Ar.fa (Ar.cpI a k q) q with dict:=(L:Int)+1 } :: (Ar.cpI a k q).drop (q+1))):=fun q h1 h2=>by
         have e:((Ar.rkK a (k+1):Nat):Int)=(L:Int)+1:=by rw [<-Ar.cpD_len,HL1.out];rfl
         rw [Ar.cpI_yes (by rw [HNN.out];exact h1) h2,e]
        have HNo:Hid (∀ q,q<m->(Ar.fa a.files q).dict ≠ (k:Int)+1->fcs (Ar.cpI a k (q+1))=fcs (Ar.cpI a k q)):=fun q h1 h2=>by rw [Ar.cpI_no (by rw [HNN.out];exact h1) h2]
        have HIl:Hid (∀ q,q<m->(Ar.cpI a k q).length=m):=fun q h1=>by rw [Ar.cpI_len (by rw [HNN.out];omega),HNN.out]
        have HINk:Hid (fcs (Ar.cpI a k m)=fcs (a.files.map (Ar.cpF a (k+1)))):=HIN.out k
        rw [hL,HI0.out] at S1
        clear hL HE1 HXX
        have c0S:=S1.c0
        have f0S:=S1.f0
        have hbC:=S1.hb
        have hlC:=S1.hC
        have hLi:(L:Int)<=4:=by omega
        generalize (Ar.cpD a k).map Value.string=XS at *
        obtain ⟨p1,q1,rfl,_⟩:=own_slice S1.o1
        have S9:=S1.below ((Below.refl _ _).drew)
        go_wp2_with fail
        go_region_law (first
         | (refine step_append_lies _ rfl _ _ 30 rfl w3.heap.size 9 i0 (.string ⟨#[]⟩) 1 16 Tryz.underlying30 hi hz0 hz1 hz2 rfl (by decide) _ _ _ rfl (S9.o1.alloc _) ⟨wk.drew.heap.size,0,none⟩ 1 1 [.string X] rfl rfl (cell_one_new _ _ _) (by simp [Value.oneCell']) (by decide) (by unfold maxLen;omega) (by omega) (by simp;omega) _ rfl ?_;intro g cp t5 hown5 hgrow5 hat5 hlt5;obtain ⟨⟨⟨qq1,qq2⟩,S5⟩,_⟩:=S9.put1 hgrow5 hown5 hat5;clear hgrow5 hown5 hat5 hlt5))
        all_goals
         clear S1 S9 c0S f0S hbC hlC qq1 qq2 a0 a1 r0 r1 z0 z1 F7 hz7 hc hbl B7
         generalize (t5.setCell ⟨C,0,none⟩ (.slice (some ⟨g,0,none⟩) (L+1) cp))=wq at *
         have Fq:=F1.keep S5.bel hz
         have a1:=Fq.a1
         clear Fq
         go_wp2_with fail
         clear a1
         go_loopw [9] (fun i w'=>∃ q:Nat,q<=m/\i=.int .i64 q/\CpS w3 w' C w3.heap.size (.slice (some ⟨g,0,none⟩) (L+1) cp) (.slice (some ⟨g2,0,none⟩) m cp2) (L+1) m (XS++[.string X]) (fcs (Ar.cpI a k q))) (fun i _=>m - (intOf i).toNat)
         case atStart=>exact ⟨0,by omega,rfl,S5⟩
         case round =>
          clear S5
          obtain ⟨q,hq2,rfl,S6⟩:=hrel
          have F8:=F1.keep S6.bel hz
          obtain ⟨B8,a0,a1,r0,r1,z0,z1,hz8⟩:=id F8
          by_cases hlq:q<m
          · have d3:decide ((q:Int)<(m:Int))=true:=decide_eq_true (by omega)
            have d3':decide (q<m)=true:=decide_eq_true hlq
            have hqi:(q:Int)<(m:Int):=by omega
            obtain ⟨bf,of,rfl,hbf,c1⟩:=HFl.out _ B8 q hlq
            have hIl:=HIl.out q hlq
            by_cases hd:(Ar.fa a.files q).dict=(k:Int)+1
            · have HE:=hid_of (HY.out q hlq hd)
              rw [<-hIl] at S6
              obtain ⟨S8,t1,t2⟩:=CpS.set1 ((L:Int)+1) S6 (i:=q) (by omega)
              have c0:=S6.c0
              have c1':=S6.c1
              rw [hIl] at c1' S8
              have e1:((Ar.fa a.files q).dict == ((k:Int)+1))=true:=by simpa using hd
              generalize (Ar.fa a.files q).dict=f1 at *
              subst hd
              clear S6 hIl
              go_wp2_with fail
              go_roundw
              case rel=>exact ⟨q+1,by omega,by go_num,by rw [HE.out];exact S8⟩
              case measure=>simp [intOf];omega
            · have HE:=hid_of (HNo.out q hlq hd)
              have e1:((Ar.fa a.files q).dict == ((k:Int)+1))=false:=by simpa using hd
              generalize (Ar.fa a.files q).dict=f1 at *
              clear hIl
              go_wp2_with fail
              go_roundw
              case rel=>exact ⟨q+1,by omega,by go_num,by rw [HE.out];exact S6⟩
              case measure=>simp [intOf];omega
          · obtain rfl:q=m:=by omega
            have d3:decide ((q:Int)<(q:Int))=false:=by simp
            rw [HINk.out,<-HM1.out,<-HL1.out] at S6
            go_wp2_with fail
            go_roundw
            case rel=>exact ⟨k+1,_,by omega,by go_num,S6⟩
            case measure=>simp [intOf];omega
  · obtain rfl:k=D:=by omega
    have d1:decide ((k:Int)+1<=(k:Int))=false:=decide_eq_false (by omega)
    obtain ⟨Bz,Oz1,Oz2,Rz0,Rz1⟩:=put_end F7.b S1.o1 S1.o2 hz F7.r0 F7.r1
    have hfin:=hQ.out _ _ _ Oz1 Oz2 S1.ne Bz
    obtain ⟨pp,qq,rfl,_⟩:=own_slice S1.o1
    have c0:=S1.c0
    have c1:=S1.c1
    have hC2:=S1.hb
    clear S1 Oz1 Oz2 Bz hQ
    go_wp2_with fail
    generalize (wr.setCell ⟨w.heap.size+1,0,none⟩ (.slice pp (Ar.cpD a k).length qq)).setCell ⟨w.heap.size+1,1,none⟩ (.slice (some ⟨g2,0,none⟩) N cp2)=wz at *
    exact bodyPost_ret (v:=.tuple #[.agg #[.slice pp (Ar.cpD a k).length qq,.slice (some ⟨g2,0,none⟩) N cp2],.int .i64 0]) (by simp [results,Tryz.results17,go_sem,Rz0,Rz1]) rfl hfin
theorem compactOf_any (ad af:Option Addr) (cd cf:Nat) (a:Ar.A) (w:World) (h:ArV w ad af a) (hs:SaneA a) :
 Calls Tryz.prog 17 #[av ad cd af cf a] w fun e w'=>ArSaid w (Ar.cmpA a) (Ar.chk a) e w':=by
 by_cases hc:Ar.chk a=0
 · rw [Ar.cmpA_is hc,hc]
   exact compactOf_ok ad af cd cf a w h hs hc
 · have e:Ar.cmpA a=Ar.az:=by unfold Ar.cmpA;rw [if_neg hc]
   rw [e]
   exact compactOf_chk ad af cd cf a w h hs hc
end Go.Proofs.YtbjbjbpgmojcbacGreat
namespace Go.Proofs.YtbjbjbpgmojcbacGreat
open Go.RowKit
theorem same_any (ad af ad' af':Option Addr) (cd cf cd' cf':Nat) (a:Ar.A) (w:World) (h:ArV w ad af a) (h':ArV w ad' af' a) (hD:a.dicts.length<=8796093022208) (hN:a.files.length<=8796093022208) :
 Calls Tryz.prog 8 #[av ad cd af cf a,av ad' cd' af' cf' a] w fun e w'=>e=.returned (.bool true)/\Below w.heap.size w w':=by
 have hb:=fun o p=>((Below.refl w.heap.size w).alloc (Nat.le_refl _) o).alloc (by simp) p
 have HX:Hid (∀ w',Below w.heap.size w w'->∀ k,k<a.dicts.length->∃ b off,ad=some ⟨b,off,none⟩/\b<w'.heap.size/\w'.cell? ⟨b,off+k,none⟩=some (.string (Tr.xa a.dicts k))):=fun w' hb k hk=>(h.ds.below hb).at hk
 have HX':Hid (∀ w',Below w.heap.size w w'->∀ k,k<a.dicts.length->∃ b off,ad'=some ⟨b,off,none⟩/\b<w'.heap.size/\w'.cell? ⟨b,off+k,none⟩=some (.string (Tr.xa a.dicts k))):=fun w' hb k hk=>(h'.ds.below hb).at hk
 have HF:Hid (∀ w',Below w.heap.size w w'->∀ k,k<a.files.length->∃ b off,af=some ⟨b,off,none⟩/\b<w'.heap.size/\FlC w' b (off+k*5) (Ar.fa a.files k)):=fun w' h9 k hk=>(h.fs.below h9).at hk
 have HF':Hid (∀ w',Below w.heap.size w w'->∀ k,k<a.files.length->∃ b off,af'=some ⟨b,off,none⟩/\b<w'.heap.size/\FlC w' b (off+k*5) (Ar.fa a.files k)):=fun w' h9 k hk=>(h'.fs.below h9).at hk
 unfold av
 clear h h'
 generalize a.dicts.length=D at *
 generalize a.files.length=N at *
 have hDi:(D:Int)<=8796093022208:=by omega
 have hNi:(N:Int)<=8796093022208:=by omega
 go_enter Tryz.func8,Tryz.ntmps8
 go_wp2_with fail
 obtain ⟨k1,k2⟩:=box2 w #[.slice ad D cd,.slice af N cf] #[.slice ad' D cd',.slice af' N cf'] 33 33
 have B1:=hb (.cells #[.slice ad D cd,.slice af N cf] 33 (0,0)) (.cells #[.slice ad' D cd',.slice af' N cf'] 33 (0,0))
 generalize ((w.alloc (.cells #[.slice ad D cd,.slice af N cf] 33 (0,0))).alloc (.cells #[.slice ad' D cd',.slice af' N cf'] 33 (0,0)))=w1 at *
 have a0:w1.cell? ⟨w.heap.size,0,none⟩=some (.slice ad D cd):=k1 0
 have a1:w1.cell? ⟨w.heap.size,1,none⟩=some (.slice af N cf):=k1 1
 have b0:w1.cell? ⟨w.heap.size+1,0,none⟩=some (.slice ad' D cd'):=k2 0
 have b1:w1.cell? ⟨w.heap.size+1,1,none⟩=some (.slice af' N cf'):=k2 1
 clear k1 k2
 go_loopw [5] (fun i wr=>∃ k:Nat,k<=D/\i=.int .i64 k/\(∀ p,wr.cell? p=w1.cell? p)/\Below w.heap.size w wr) (fun i _=>D - (intOf i).toNat)
 case atStart=>exact ⟨0,by omega,rfl,fun _=>rfl,B1⟩
 case round =>
  obtain ⟨k,hk2,rfl,hsame,B2⟩:=hrel
  have a0':=(hsame _).trans a0
  have b0':=(hsame _).trans b0
  have a1':=(hsame _).trans a1
  have b1':=(hsame _).trans b1
  by_cases hlt:k<D
  · have d1:decide ((k:Int)<(D:Int))=true:=by simp;omega
    have d1':decide (k<D)=true:=by simp;omega
    have hki:(k:Int)<(D:Int):=by omega
    obtain ⟨b,off,rfl,hbl,hc⟩:=HX.out wr B2 k hlt
    obtain ⟨b',off',rfl,hbl',hc'⟩:=HX'.out wr B2 k hlt
    have HSm:Hid (∀ p,wr.cell? p=w1.cell? p):=hsame
    clear hsame
    generalize Tr.xa a.dicts k=X at *
    go_wp2_with fail
    go_region
    all_goals
     go_wp2_with fail
     go_roundw
     case rel=>exact ⟨k+1,by omega,by go_num,fun p=>HSm.out p,B2.drew⟩
     case measure=>simp [intOf];omega
  · obtain rfl:k=D:=by omega
    have d1:decide ((k:Int)<(k:Int))=false:=by simp
    have HSm:Hid (∀ p,wr.cell? p=w1.cell? p):=hsame
    clear hsame
    go_wp2_with fail
    go_loopw [6] (fun i w2=>∃ m:Nat,m<=N/\i=.int .i64 m/\(∀ p,w2.cell? p=w1.cell? p)/\Below w.heap.size w w2) (fun i _=>N - (intOf i).toNat)
    case atStart=>exact ⟨0,by omega,rfl,HSm.out,B2⟩
    case round =>
     obtain ⟨m,hm2,rfl,hsame2,B3⟩:=hrel
     have a2:=(hsame2 _).trans a1
     have b2:=(hsame2 _).trans b1
     have HSm2:Hid (∀ p,World.cell? _ p=w1.cell? p):=hsame2
     clear hsame2 a0' b0' a1' b1'
     by_cases hlt:m<N
     · have d2:decide ((m:Int)<(N:Int))=true:=by simp;omega
       have d2':decide (m<N)=true:=by simp;omega
       have hmi:(m:Int)<(N:Int):=by omega
       obtain ⟨b,off,rfl,hbl,hcell⟩:=HF.out _ B3 m hlt
       obtain ⟨c0,c1,c2,c3,c4⟩:=hcell
       obtain ⟨b',off',rfl,hbl',hcell'⟩:=HF'.out _ B3 m hlt
       obtain ⟨e0,e1,e2,e3,e4⟩:=hcell'
       generalize (Ar.fa a.files m).name=f0 at *
       generalize (Ar.fa a.files m).dict=f1 at *
       generalize (Ar.fa a.files m).size=f2 at *
       generalize (Ar.fa a.files m).sum=f3 at *
       generalize (Ar.fa a.files m).blk=f4 at *
       go_wp2_with fail
       go_region
       all_goals
        go_wp2_with fail
        go_roundw
        case rel=>exact ⟨m+1,by omega,by go_num,fun p=>HSm2.out p,B3.drew⟩
        case measure=>simp [intOf];omega
     · obtain rfl:m=N:=by omega
       have d2:decide ((m:Int)<(m:Int))=false:=by simp
       go_wp2_with fail
       go_ret
       exact ⟨rfl,B3⟩
end Go.Proofs.YtbjbjbpgmojcbacGreat
namespace Go.Proofs.YtbjbjbpgmojcbacGreat
open Go.RowKit
section
variable {P:Program} {w:World}
theorem step_append_all {ops:Array Oper} {o:Oper} {a:Act} {K:Act->World->Prop} {Q:Exit->Act->World->Prop} {E:Prop} (hgd:o.guard=none) (s x:Operand) (t:TypeId)
 (ho:o.op=.call { callee:=.builtin .append,args:=#[s,x],argTypes:=#[t,t] })
 (base:Nat) (e:TypeId) (i:TypeInfo) (z:Value) (size bytes:Nat) (ht:P.underlying t=some (.slice e)) (hi:P.info? e=some i) (hz:i.zero=some z)
 (hsize:i.size=size) (hby:i.bytes=bytes) (hzs:z.cells.size=size) (hsz:0<size)
 (g0 n c0:Nat) (xs:List Value) (hs:a.eval s=.slice (some ⟨g0,0,none⟩) n c0) (hown:w.ownsRow base e size (.slice (some ⟨g0,0,none⟩) n c0) n xs)
 (ad:Option Addr) (m c:Nat) (news:List Value) (hx:a.eval x=.slice ad m c) (hl:news.length=m*size) (hnews:m=0\/∃ b,ad=some b/\∀ j u,news[j]?=some u->w.cell? (b.add j)=some u) (h1:∀ u ∈ news,u.oneCell'=true)
 (h63:n+m<=maxLen) (hbytes:(n+m)*bytes<=140737488355328) (hbase:base<=w.heap.size) (H:Nat) (hH:w.heap.size=H)
 (h:∀ g cap w',w'.ownsRow base e size (.slice (some ⟨g,0,none⟩) (n+m) cap) (n+m) (xs++news)->w.grownBy w' (some g0)->(g=g0\/g=H)->K (a.put o.dst (.slice (some ⟨g,0,none⟩) (n+m) cap)) w') :
 if Region.wanted o (yielded ops a.tmps)=true then Oper.wp P o a w K Q else E:=by
 have hw:Region.wanted o (yielded ops a.tmps)=true:=by simp [Region.wanted,hgd]
 by_cases hm:m=0
 · subst hm
   obtain rfl:news=[]:=List.length_eq_zero_iff.1 (by rw [hl];omega)
   have hle:n<=c0:=by
    rcases hown.2 with ⟨h9,_⟩ | ⟨g,cap,cur,h9,_,_,h8,_⟩
    · cases h9
    · simp only [Value.slice.injEq] at h9
      obtain ⟨_,_,rfl⟩:=h9
      exact h8
   rw [if_pos hw]
   have hr:=run_append_zero (P:=P) w t o.type e i ht hi ⟨g0,0,none⟩ n c0 hle ad c
   unfold Oper.wp execOp
   simp only [ho,resolve,invoke,builtin,Sem.run_bind,Sem.run_pure,Result.andThen_ok,List.map_toArray,List.map_cons,List.map_nil,hs,hx,hr]
   have h9:=h g0 c0 w (by rw [Nat.add_zero,List.append_nil];exact hown) ⟨rfl,rfl,rfl,Nat.le_refl _,fun _ _ _=>rfl⟩ (.inl rfl)
   rw [Nat.add_zero] at h9
   exact h9
 · rcases hnews with h9 | ⟨b,rfl,hnews⟩
   · exact absurd h9 hm
   · refine step_append_lies w hgd s x t ho base e i z size bytes ht hi hz hsize hby hzs hsz _ n xs hs hown b m c news hx hl hnews h1 (by omega) h63 hbytes hbase H hH (fun g cap w' h2 h3 h4 _=>h g cap w' h2 h3 ?_)
     rcases h4 with h4 | h4
     · simp only [Value.ownBlock,Option.some.injEq] at h4;exact .inl h4.symm
     · exact .inr h4
end
structure O2 (w0 w:World) (v1:Value) (n1:Nat) (xs1:List Value) (v2:Value) (n2:Nat) (xs2:List Value):Prop where
 o1:w.ownsRow w0.heap.size 9 1 v1 n1 xs1
 o2:w.ownsRow w0.heap.size 47 5 v2 n2 xs2
 ne:∀ j,v1.ownBlock=some j->v2.ownBlock ≠ some j
 bel:Below w0.heap.size w0 w
theorem O2.start (w0:World):O2 w0 w0 (.slice none 0 0) 0 [] (.slice none 0 0) 0 []:=⟨⟨rfl,.inl ⟨rfl,rfl⟩⟩,⟨rfl,.inl ⟨rfl,rfl⟩⟩,fun j hj=>by simp [Value.ownBlock] at hj,Below.refl _ _⟩
theorem O2.drew {w0 w:World} {v1 v2:Value} {n1 n2:Nat} {xs1 xs2:List Value} (h:O2 w0 w v1 n1 xs1 v2 n2 xs2):O2 w0 w.drew v1 n1 xs1 v2 n2 xs2:=⟨own_below h.o1 ((Below.refl _ _).drew),own_below h.o2 ((Below.refl _ _).drew),h.ne,h.bel.drew⟩
theorem O2.new1 {w0 w:World} {v2:Value} {n2:Nat} {xs2:List Value} (h:O2 w0 w (.slice none 0 0) 0 [] v2 n2 xs2):O2 w0 (w.alloc (.cells #[] 9 (0,0))) (.slice (some ⟨w.heap.size,0,none⟩) 0 0) 0 [] v2 n2 xs2 :=
 ⟨own_empty w _ _ _ h.bel.size,h.o2.alloc _,fun j hj e=>by simp [Value.ownBlock] at hj;subst hj;have:=(h.o2.lt _ e).2;omega,h.bel.alloc h.bel.size _⟩
theorem O2.new2 {w0 w:World} {v1:Value} {n1:Nat} {xs1:List Value} (h:O2 w0 w v1 n1 xs1 (.slice none 0 0) 0 []):O2 w0 (w.alloc (.cells #[] 47 (0,0))) v1 n1 xs1 (.slice (some ⟨w.heap.size,0,none⟩) 0 0) 0 [] :=
 ⟨h.o1.alloc _,own_empty w _ _ _ h.bel.size,fun j hj e=>by simp [Value.ownBlock] at e;subst e;have:=(h.o1.lt _ hj).2;omega,h.bel.alloc h.bel.size _⟩
theorem O2.app1 {w0 w w':World} {g0 n m c0 g cap:Nat} {v2:Value} {n2:Nat} {xs1 ys xs2:List Value} (h:O2 w0 w (.slice (some ⟨g0,0,none⟩) n c0) n xs1 v2 n2 xs2) (ho:w'.ownsRow w0.heap.size 9 1 (.slice (some ⟨g,0,none⟩) m cap) m ys) (hg:w.grownBy w' (some g0)) (hl:g=g0\/g=w.heap.size):O2 w0 w' (.slice (some ⟨g,0,none⟩) m cap) m ys v2 n2 xs2:=by
 have hg0:=h.o1.lt g0 rfl
 refine ⟨ho,h.o2.kept hg ?_,fun j hj e=>?_,h.bel.grown hg h.bel.size (fun j hj=>by simp at hj;omega)⟩
 · cases hv:v2.ownBlock with
   | none=>exact .inl rfl
   | some j=>exact .inr (fun e=>h.ne g0 rfl (by rw [hv];exact e))
 · simp [Value.ownBlock] at hj
   subst hj
   rcases hl with rfl | rfl
   · exact h.ne _ rfl e
   · have:=(h.o2.lt _ e).2;omega
theorem O2.app2 {w0 w w':World} {g0 n m c0 g cap:Nat} {v1:Value} {n1:Nat} {xs1 ys xs2:List Value} (h:O2 w0 w v1 n1 xs1 (.slice (some ⟨g0,0,none⟩) n c0) n xs2) (ho:w'.ownsRow w0.heap.size 47 5 (.slice (some ⟨g,0,none⟩) m cap) m ys) (hg:w.grownBy w' (some g0)) (hl:g=g0\/g=w.heap.size):O2 w0 w' v1 n1 xs1 (.slice (some ⟨g,0,none⟩) m cap) m ys:=by
 have hg0:=h.o2.lt g0 rfl
 refine ⟨h.o1.kept hg ?_,ho,fun j hj e=>?_,h.bel.grown hg h.bel.size (fun j hj=>by simp at hj;omega)⟩
 · cases hv:v1.ownBlock with
   | none=>exact .inl rfl
   | some j=>exact .inr (fun e=>h.ne j hv (by simp [Value.ownBlock];simp at e;exact e.symm))
 · simp [Value.ownBlock] at e
   subst e
   rcases hl with rfl | rfl
   · exact h.ne _ hj rfl
   · have:=(h.o1.lt _ hj).2;omega
end Go.Proofs.YtbjbjbpgmojcbacGreat
namespace Go.Proofs.YtbjbjbpgmojcbacGreat
open Go.RowKit
theorem ownArchive_any (ad af:Option Addr) (cd cf:Nat) (a:Ar.A) (w:World) (h:ArV w ad af a) (hD:a.dicts.length<=8796093022208) (hN:a.files.length*56<=140737488355328) :
 Calls Tryz.prog 11 #[av ad cd af cf a] w fun e w'=>TwoSaid a w e w':=by
 obtain ⟨i0,hi,hz0,hz1,hz2⟩:=info_parts (P:=Tryz.prog) (e:=9) (z:=.string ⟨#[]⟩) (size:=1) (bytes:=16) (by kernel_rfl)
 obtain ⟨j0,gi,gz0,gz1,gz2⟩:=info_parts (P:=Tryz.prog) (e:=47) (z:=.agg #[.string ⟨#[]⟩,.int .i64 0,.int .i64 0,.int .i64 0,.string ⟨#[]⟩]) (size:=5) (bytes:=56) (by kernel_rfl)
 have HDn:Hid (∀ w',Below w.heap.size w w'->(a.dicts.length=0\/∃ b,ad=some b/\∀ j u,(a.dicts.map Value.string)[j]?=some u->w'.cell? (b.add j)=some u)):=fun w' h9=>(h.ds.below h9).news
 have HFn:Hid (∀ w',Below w.heap.size w w'->(a.files.length=0\/∃ b,af=some b/\∀ j u,(fcs a.files)[j]?=some u->w'.cell? (b.add j)=some u)):=fun w' h9=>(h.fs.below h9).news
 have hd1:(a.dicts.map Value.string).length=a.dicts.length*1:=by simp
 have hd2:∀ u ∈ a.dicts.map Value.string,u.oneCell'=true:=fun u hu=>by obtain ⟨x,_,rfl⟩:=List.mem_map.1 hu;rfl
 have hf1:(fcs a.files).length=a.files.length*5:=fcs_len _
 have hf2:∀ u ∈ fcs a.files,u.oneCell'=true:=fcs_one _
 have hQ:Hid (∀ v1 v2 w',w'.ownsRow w.heap.size 9 1 v1 a.dicts.length (a.dicts.map Value.string)->w'.ownsRow w.heap.size 47 5 v2 a.files.length (fcs a.files)->(∀ j,v1.ownBlock=some j->v2.ownBlock ≠ some j)->Below w.heap.size w w'->TwoSaid a w (.returned (.agg #[v1,v2])) w'):=fun v1 v2 w' k1 k2 k3 k4=>by
  obtain ⟨x,p,y,q,rfl,rfl,hv⟩:=(⟨k1,k2,k3⟩:ArOwn w.heap.size w' v1 v2 a).slices
  exact ⟨x,p,y,q,rfl,hv,k4⟩
 generalize TwoSaid a w=Q at *
 unfold av
 clear h
 generalize a.dicts.map Value.string=ds at *
 generalize fcs a.files=FS at *
 generalize a.dicts.length=D at *
 generalize a.files.length=N at *
 have HD1:Hid (ds.length=D*1):=hd1
 have HF1:Hid (FS.length=N*5):=hf1
 clear hd1 hf1
 go_enter Tryz.func11,Tryz.ntmps11
 go_wp2_with fail
 have F1:=Fr.start w (.slice ad D cd) (.slice af N cf)
 generalize ((w.alloc (.cells #[.slice ad D cd,.slice af N cf] 33 (0,0))).alloc (.cells #[.slice none 0 0,.slice none 0 0] 33 (0,0)))=w1 at *
 have HSS:Hid (∀ w',Below w1.heap.size w1 w'->(fun w'=>w'.cell? ⟨w.heap.size,0,none⟩=some (.slice ad D cd)/\w'.cell? ⟨w.heap.size,1,none⟩=some (.slice af N cf)) w'):=fun w' h9=>⟨(F1.next h9).a0,(F1.next h9).a1⟩
 have HB:Hid (∀ w',Below w1.heap.size w1 w'->Below w.heap.size w w'):=fun w' h9=>(F1.next h9).b
 have A0:=(O2.start w1).drew
 refine wp_region_held_drew (S:=fun w'=>w'.cell? ⟨w.heap.size,0,none⟩=some (.slice ad D cd)/\w'.cell? ⟨w.heap.size,1,none⟩=some (.slice af N cf)) (by kernel_rfl) (HSS.out _ A0.bel) (fun hS=>?_)
 refine wpAnyH_take (i:=1) (fuel:=9) (v:=.pointer (some ⟨w.heap.size,0,none⟩)) rfl (by kernel_rfl) (by kernel_rfl) (by kernel_rfl) (fun _ _ _ h=>h) (Or.inl ⟨by rfl,fun w' h9=>by obtain ⟨k1,k2⟩:=h9;go_simp⟩) hS ?_
 refine wpAnyH_take (i:=2) (fuel:=8) (v:=.slice ad D cd) rfl (by kernel_rfl) (by kernel_rfl) (by kernel_rfl) (fun _ _ _ h=>h) (Or.inl ⟨by rfl,fun w' h9=>by obtain ⟨k1,k2⟩:=h9;go_simp⟩) hS ?_
 refine wpAnyH_take (i:=5) (fuel:=7) (v:=.pointer (some ⟨w.heap.size,1,none⟩)) rfl (by kernel_rfl) (by kernel_rfl) (by kernel_rfl) (fun _ _ _ h=>h) (Or.inl ⟨by rfl,fun w' h9=>by obtain ⟨k1,k2⟩:=h9;go_simp⟩) hS ?_
 refine wpAnyH_take (i:=6) (fuel:=6) (v:=.slice af N cf) rfl (by kernel_rfl) (by kernel_rfl) (by kernel_rfl) (fun _ _ _ h=>h) (Or.inl ⟨by rfl,fun w' h9=>by obtain ⟨k1,k2⟩:=h9;go_simp⟩) hS ?_
 refine wpAnyH_ready (rs:=[0,4]) (fuel:=5) (by kernel_rfl) (by simp) ?_
 refine AllReadyH.cons rfl (fun K hK=>?_) (AllReadyH.cons rfl (fun K hK=>?_) AllReadyH.nil)
 · go_simp
   have A1:=A0.new1
   refine hK.out _ _ (HSS.out _ A1.bel) (fun _=>?_)
   clear hK
   refine wpAnyH_ready (rs:=[3,4]) (fuel:=4) (by kernel_rfl) (by simp) ?_
   refine AllReadyH.cons rfl (fun K hK=>?_) (AllReadyH.cons rfl (fun K hK=>?_) AllReadyH.nil)
   · refine step_append_all rfl _ _ 30 rfl w1.heap.size 9 i0 (.string ⟨#[]⟩) 1 16 Tryz.underlying30 hi hz0 hz1 hz2 rfl (by decide) _ 0 0 [] rfl A1.o1 ad D cd ds rfl HD1.out (HDn.out _ (HB.out _ A1.bel)) hd2 (by unfold maxLen;omega) (by omega) A1.bel.size _ rfl ?_
     intro gd cpd td hown hg hat
     have A2:=A1.app1 hown hg hat
     clear hown hg hat
     simp only [Nat.zero_add,List.nil_append] at A2 |-
     refine hK.out _ _ (HSS.out _ A2.bel) (fun _=>?_)
     clear hK
     refine wpAnyH_ready (rs:=[4]) (fuel:=3) (by kernel_rfl) (by simp) ?_
     refine AllReadyH.cons rfl (fun K hK=>?_) AllReadyH.nil
     go_simp
     have A3:=A2.new2
     refine hK.out _ _ (HSS.out _ A3.bel) (fun _=>?_)
     clear hK
     refine wpAnyH_ready (rs:=[7]) (fuel:=2) (by kernel_rfl) (by simp) ?_
     refine AllReadyH.cons rfl (fun K hK=>?_) AllReadyH.nil
     refine step_append_all rfl _ _ 31 rfl w1.heap.size 47 j0 (.agg #[.string ⟨#[]⟩,.int .i64 0,.int .i64 0,.int .i64 0,.string ⟨#[]⟩]) 5 56 Tryz.underlying31 gi gz0 gz1 gz2 rfl (by decide) _ 0 0 [] rfl A3.o2 af N cf FS rfl HF1.out (HFn.out _ (HB.out _ A3.bel)) hf2 (by unfold maxLen;omega) (by omega) A3.bel.size _ rfl ?_
     intro gf cpf tf hown hg hat
     have A4:=A3.app2 hown hg hat
     clear hown hg hat
     simp only [Nat.zero_add,List.nil_append] at A4 |-
     refine hK.out _ _ (HSS.out _ A4.bel) (fun _=>?_)
     clear hK
     refine wpAnyH_ready (rs:=[8]) (fuel:=1) (by kernel_rfl) (by simp) ?_
     refine AllReadyH.cons rfl (fun K hK=>?_) AllReadyH.nil
     go_simp
     refine hK.out _ _ (HSS.out _ A4.bel) (fun _=>?_)
     clear hK
     refine wpAnyH_ready (rs:=[9]) (fuel:=0) (by kernel_rfl) (by simp) ?_
     refine AllReadyH.cons rfl (fun K hK=>?_) AllReadyH.nil
     have F9:=F1.next A4.bel
     obtain ⟨B9,a0,a1,r0,r1,z0,z1,hz9⟩:=id F9
     obtain ⟨Bz,Oz1,Oz2,Rz0,Rz1⟩:=put_end B9 A4.o1 A4.o2 F1.hz r0 r1
     have hfin:=hQ.out _ _ _ Oz1 Oz2 A4.ne Bz
     have hA0:=(World.cell?_setCell_other _ ⟨w.heap.size+1,1,none⟩ ⟨w.heap.size,0,none⟩ (.slice (some ⟨gf,0,none⟩) N cpf) (by intro e;have:=congrArg Addr.block e;simp at this)).trans ((World.cell?_setCell_other _ ⟨w.heap.size+1,0,none⟩ ⟨w.heap.size,0,none⟩ (.slice (some ⟨gd,0,none⟩) D cpd) (by intro e;have:=congrArg Addr.block e;simp at this)).trans a0)
     have hA1:=(World.cell?_setCell_other _ ⟨w.heap.size+1,1,none⟩ ⟨w.heap.size,1,none⟩ (.slice (some ⟨gf,0,none⟩) N cpf) (by intro e;have:=congrArg Addr.block e;simp at this)).trans ((World.cell?_setCell_other _ ⟨w.heap.size+1,0,none⟩ ⟨w.heap.size,1,none⟩ (.slice (some ⟨gd,0,none⟩) D cpd) (by intro e;have:=congrArg Addr.block e;simp at this)).trans a1)
     go_simp
     refine hK.out _ _ ⟨hA0,hA1⟩ (fun _=>?_)
     clear hK
     refine ⟨by kernel_rfl,?_⟩
     go_wp2_with fail
     exact bodyPost_ret (v:=.agg #[.slice (some ⟨gd,0,none⟩) D cpd,.slice (some ⟨gf,0,none⟩) N cpf]) (by simp [results,Tryz.results11,go_sem,Rz0,Rz1]) rfl hfin
   · go_simp
     have A7:=A1.new2
     rw [show (w1.drew.alloc (.cells #[] 9 (0,0))).heap.size=w1.heap.size+1 from by simp] at A7
     refine hK.out _ _ (HSS.out _ A7.bel) (fun _=>?_)
     clear hK
     refine wpAnyH_ready (rs:=[3]) (fuel:=3) (by kernel_rfl) (by simp) ?_
     refine AllReadyH.cons rfl (fun K hK=>?_) AllReadyH.nil
     refine step_append_all rfl _ _ 30 rfl w1.heap.size 9 i0 (.string ⟨#[]⟩) 1 16 Tryz.underlying30 hi hz0 hz1 hz2 rfl (by decide) _ 0 0 [] rfl A7.o1 ad D cd ds rfl HD1.out (HDn.out _ (HB.out _ A7.bel)) hd2 (by unfold maxLen;omega) (by omega) A7.bel.size _ rfl ?_
     intro gd cpd td hown hg hat
     have A8:=A7.app1 hown hg hat
     clear hown hg hat
     simp only [Nat.zero_add,List.nil_append] at A8 |-
     refine hK.out _ _ (HSS.out _ A8.bel) (fun _=>?_)
     clear hK
     refine wpAnyH_ready (rs:=[7]) (fuel:=2) (by kernel_rfl) (by simp) ?_
     refine AllReadyH.cons rfl (fun K hK=>?_) AllReadyH.nil
     refine step_append_all rfl _ _ 31 rfl w1.heap.size 47 j0 (.agg #[.string ⟨#[]⟩,.int .i64 0,.int .i64 0,.int .i64 0,.string ⟨#[]⟩]) 5 56 Tryz.underlying31 gi gz0 gz1 gz2 rfl (by decide) _ 0 0 [] rfl A8.o2 af N cf FS rfl HF1.out (HFn.out _ (HB.out _ A8.bel)) hf2 (by unfold maxLen;omega) (by omega) A8.bel.size _ rfl ?_
     intro gf cpf tf hown hg hat
     have A9:=A8.app2 hown hg hat
     clear hown hg hat
     simp only [Nat.zero_add,List.nil_append] at A9 |-
     refine hK.out _ _ (HSS.out _ A9.bel) (fun _=>?_)
     clear hK
     refine wpAnyH_ready (rs:=[8]) (fuel:=1) (by kernel_rfl) (by simp) ?_
     refine AllReadyH.cons rfl (fun K hK=>?_) AllReadyH.nil
     go_simp
     refine hK.out _ _ (HSS.out _ A9.bel) (fun _=>?_)
     clear hK
     refine wpAnyH_ready (rs:=[9]) (fuel:=0) (by kernel_rfl) (by simp) ?_
     refine AllReadyH.cons rfl (fun K hK=>?_) AllReadyH.nil
     have F9:=F1.next A9.bel
     obtain ⟨B9,a0,a1,r0,r1,z0,z1,hz9⟩:=id F9
     obtain ⟨Bz,Oz1,Oz2,Rz0,Rz1⟩:=put_end B9 A9.o1 A9.o2 F1.hz r0 r1
     have hfin:=hQ.out _ _ _ Oz1 Oz2 A9.ne Bz
     have hA0:=(World.cell?_setCell_other _ ⟨w.heap.size+1,1,none⟩ ⟨w.heap.size,0,none⟩ (.slice (some ⟨gf,0,none⟩) N cpf) (by intro e;have:=congrArg Addr.block e;simp at this)).trans ((World.cell?_setCell_other _ ⟨w.heap.size+1,0,none⟩ ⟨w.heap.size,0,none⟩ (.slice (some ⟨gd,0,none⟩) D cpd) (by intro e;have:=congrArg Addr.block e;simp at this)).trans a0)
     have hA1:=(World.cell?_setCell_other _ ⟨w.heap.size+1,1,none⟩ ⟨w.heap.size,1,none⟩ (.slice (some ⟨gf,0,none⟩) N cpf) (by intro e;have:=congrArg Addr.block e;simp at this)).trans ((World.cell?_setCell_other _ ⟨w.heap.size+1,0,none⟩ ⟨w.heap.size,1,none⟩ (.slice (some ⟨gd,0,none⟩) D cpd) (by intro e;have:=congrArg Addr.block e;simp at this)).trans a1)
     go_simp
     refine hK.out _ _ ⟨hA0,hA1⟩ (fun _=>?_)
     clear hK
     refine ⟨by kernel_rfl,?_⟩
     go_wp2_with fail
     exact bodyPost_ret (v:=.agg #[.slice (some ⟨gd,0,none⟩) D cpd,.slice (some ⟨gf,0,none⟩) N cpf]) (by simp [results,Tryz.results11,go_sem,Rz0,Rz1]) rfl hfin
 · go_simp
   have A12:=A0.new2
   refine hK.out _ _ (HSS.out _ A12.bel) (fun _=>?_)
   clear hK
   refine wpAnyH_ready (rs:=[0]) (fuel:=4) (by kernel_rfl) (by simp) ?_
   refine AllReadyH.cons rfl (fun K hK=>?_) AllReadyH.nil
   go_simp
   have A13:=A12.new1
   rw [show (w1.drew.alloc (.cells #[] 47 (0,0))).heap.size=w1.heap.size+1 from by simp] at A13
   refine hK.out _ _ (HSS.out _ A13.bel) (fun _=>?_)
   clear hK
   refine wpAnyH_ready (rs:=[3]) (fuel:=3) (by kernel_rfl) (by simp) ?_
   refine AllReadyH.cons rfl (fun K hK=>?_) AllReadyH.nil
   refine step_append_all rfl _ _ 30 rfl w1.heap.size 9 i0 (.string ⟨#[]⟩) 1 16 Tryz.underlying30 hi hz0 hz1 hz2 rfl (by decide) _ 0 0 [] rfl A13.o1 ad D cd ds rfl HD1.out (HDn.out _ (HB.out _ A13.bel)) hd2 (by unfold maxLen;omega) (by omega) A13.bel.size _ rfl ?_
   intro gd cpd td hown hg hat
   have A14:=A13.app1 hown hg hat
   clear hown hg hat
   simp only [Nat.zero_add,List.nil_append] at A14 |-
   refine hK.out _ _ (HSS.out _ A14.bel) (fun _=>?_)
   clear hK
   refine wpAnyH_ready (rs:=[7]) (fuel:=2) (by kernel_rfl) (by simp) ?_
   refine AllReadyH.cons rfl (fun K hK=>?_) AllReadyH.nil
   refine step_append_all rfl _ _ 31 rfl w1.heap.size 47 j0 (.agg #[.string ⟨#[]⟩,.int .i64 0,.int .i64 0,.int .i64 0,.string ⟨#[]⟩]) 5 56 Tryz.underlying31 gi gz0 gz1 gz2 rfl (by decide) _ 0 0 [] rfl A14.o2 af N cf FS rfl HF1.out (HFn.out _ (HB.out _ A14.bel)) hf2 (by unfold maxLen;omega) (by omega) A14.bel.size _ rfl ?_
   intro gf cpf tf hown hg hat
   have A15:=A14.app2 hown hg hat
   clear hown hg hat
   simp only [Nat.zero_add,List.nil_append] at A15 |-
   refine hK.out _ _ (HSS.out _ A15.bel) (fun _=>?_)
   clear hK
   refine wpAnyH_ready (rs:=[8]) (fuel:=1) (by kernel_rfl) (by simp) ?_
   refine AllReadyH.cons rfl (fun K hK=>?_) AllReadyH.nil
   go_simp
   refine hK.out _ _ (HSS.out _ A15.bel) (fun _=>?_)
   clear hK
   refine wpAnyH_ready (rs:=[9]) (fuel:=0) (by kernel_rfl) (by simp) ?_
   refine AllReadyH.cons rfl (fun K hK=>?_) AllReadyH.nil
   have F9:=F1.next A15.bel
   obtain ⟨B9,a0,a1,r0,r1,z0,z1,hz9⟩:=id F9
   obtain ⟨Bz,Oz1,Oz2,Rz0,Rz1⟩:=put_end B9 A15.o1 A15.o2 F1.hz r0 r1
   have hfin:=hQ.out _ _ _ Oz1 Oz2 A15.ne Bz
   have hA0:=(World.cell?_setCell_other _ ⟨w.heap.size+1,1,none⟩ ⟨w.heap.size,0,none⟩ (.slice (some ⟨gf,0,none⟩) N cpf) (by intro e;have:=congrArg Addr.block e;simp at this)).trans ((World.cell?_setCell_other _ ⟨w.heap.size+1,0,none⟩ ⟨w.heap.size,0,none⟩ (.slice (some ⟨gd,0,none⟩) D cpd) (by intro e;have:=congrArg Addr.block e;simp at this)).trans a0)
   have hA1:=(World.cell?_setCell_other _ ⟨w.heap.size+1,1,none⟩ ⟨w.heap.size,1,none⟩ (.slice (some ⟨gf,0,none⟩) N cpf) (by intro e;have:=congrArg Addr.block e;simp at this)).trans ((World.cell?_setCell_other _ ⟨w.heap.size+1,0,none⟩ ⟨w.heap.size,1,none⟩ (.slice (some ⟨gd,0,none⟩) D cpd) (by intro e;have:=congrArg Addr.block e;simp at this)).trans a1)
   go_simp
   refine hK.out _ _ ⟨hA0,hA1⟩ (fun _=>?_)
   clear hK
   refine ⟨by kernel_rfl,?_⟩
   go_wp2_with fail
   exact bodyPost_ret (v:=.agg #[.slice (some ⟨gd,0,none⟩) D cpd,.slice (some ⟨gf,0,none⟩) N cpf]) (by simp [results,Tryz.results11,go_sem,Rz0,Rz1]) rfl hfin
end Go.Proofs.YtbjbjbpgmojcbacGreat
namespace Go.Proofs.YtbjbjbpgmojcbacGreat
open Go.RowKit
def Wr (w:World) (base L:Nat) (ad:Option Addr) (n size:Nat):Prop:=n=0\/∃ g,ad=some ⟨g,0,none⟩/\base<=g/\g ≠ L/\∀ j,j<n*size->(∃ u,w.cell? ⟨g,j,none⟩=some u)/\w.frozen? ⟨g,j,none⟩=false
theorem own_wr {w:World} {lo base L:Nat} {e:TypeId} {size n cap:Nat} {ad:Option Addr} {xs:List Value} (h:w.ownsRow lo e size (.slice ad n cap) n xs) (hb:base<=lo) (hL:w.heap.size<=L):Wr w base L ad n size:=by
 rcases h.2 with ⟨_,h2⟩ | ⟨g,cap',cur,h1,h2,h3,h4,h5,h6,h7⟩
 · exact .inl h2
 · simp only [Value.slice.injEq] at h1
   obtain ⟨rfl,_,rfl⟩:=h1
   have hg:g<w.heap.size:=(Array.getElem?_eq_some_iff.1 h3).1
   refine .inr ⟨g,rfl,by omega,by omega,fun j hj=>⟨?_,frozenB h3 _⟩⟩
   have hle:n*size<=cap*size:=Nat.mul_le_mul_right _ h4
   have hj2:j<cur.size:=by omega
   exact ⟨cur[j],by rw [cellB h3,Array.getElem?_eq_getElem hj2]⟩
theorem Wr.below {w w':World} {base L:Nat} {ad:Option Addr} {n size:Nat} (h:Wr w base L ad n size) (G:Below w.heap.size w w'):Wr w' base L ad n size:=by
 rcases h with h | ⟨g,h1,h2,h3,h4⟩
 · exact .inl h
 · refine .inr ⟨g,h1,h2,h3,fun j hj=>?_⟩
   obtain ⟨⟨u,hu⟩,hf⟩:=h4 j hj
   have hlt:=World.block_lt_of_cell? w _ hu
   exact ⟨⟨u,(G.cell (p:=⟨g,j,none⟩) hlt).trans hu⟩,(G.frozen (p:=⟨g,j,none⟩) hlt).trans hf⟩
theorem Wr.set {w:World} {base L:Nat} {ad:Option Addr} {n size:Nat} (h:Wr w base L ad n size) (p:Addr) (v:Value):Wr (w.setCell p v) base L ad n size:=by
 rcases h with h | ⟨g,h1,h2,h3,h4⟩
 · exact .inl h
 · refine .inr ⟨g,h1,h2,h3,fun j hj=>?_⟩
   obtain ⟨⟨u,hu⟩,hf⟩:=h4 j hj
   refine ⟨?_,by rw [World.frozen?_setCell];exact hf⟩
   by_cases e:p=⟨g,j,none⟩
   · subst e;exact ⟨v,World.cell?_setCell_same _ _ _ hu⟩
   · exact ⟨u,(World.cell?_setCell_other _ _ _ _ e).trans hu⟩
structure Rs (w2 wr:World) (L:Nat) (aD aF:Nat->Option Addr) (nD cD nF cF:Nat->Nat):Prop where
 bel:Below w2.heap.size w2 wr
 lt:w2.heap.size<=L
 c:∀ i,i<3->wr.cell? ⟨L,i*2,none⟩=some (.slice (aD i) (nD i) (cD i))/\wr.cell? ⟨L,i*2+1,none⟩=some (.slice (aF i) (nF i) (cF i))
 wd:∀ i,i<3->Wr wr w2.heap.size L (aD i) (nD i) 1
 wf:∀ i,i<3->Wr wr w2.heap.size L (aF i) (nF i) 5
theorem Rs.set {w2 wr:World} {L:Nat} {aD aF:Nat->Option Addr} {nD cD nF cF:Nat->Nat} (h:Rs w2 wr L aD aF nD cD nF cF) {g:Nat} (hg:w2.heap.size<=g) (hne:g ≠ L) (o:Nat) (v:Value):Rs w2 (wr.setCell ⟨g,o,none⟩ v) L aD aF nD cD nF cF:=by
 refine ⟨h.bel.setCell hg _,h.lt,fun i hi=>?_,fun i hi=>(h.wd i hi).set _ _,fun i hi=>(h.wf i hi).set _ _⟩
 obtain ⟨k1,k2⟩:=h.c i hi
 exact ⟨(World.cell?_setCell_other _ _ _ _ (by intro e;have:=congrArg Addr.block e;simp at this;omega)).trans k1,(World.cell?_setCell_other _ _ _ _ (by intro e;have:=congrArg Addr.block e;simp at this;omega)).trans k2⟩
theorem Rs.set5 {w2 wr:World} {L:Nat} {aD aF:Nat->Option Addr} {nD cD nF cF:Nat->Nat} (h:Rs w2 wr L aD aF nD cD nF cF) {g:Nat} (hg:w2.heap.size<=g) (hne:g ≠ L) (o:Nat) (v0 v1 v2 v3 v4:Value):Rs w2 (w5s wr g o v0 v1 v2 v3 v4) L aD aF nD cD nF cF:=by
 unfold w5s
 exact ((((h.set hg hne _ _).set hg hne _ _).set hg hne _ _).set hg hne _ _).set hg hne _ _
theorem Bx.keep {w w':World} {b lo:Nat} {x y:Value} (h:Bx w b x y) (G:Below lo w w') (hl:b<lo):Bx w' b x y :=
 ⟨(G.cell (p:=⟨b,0,none⟩) hl).trans h.c0,(G.cell (p:=⟨b,1,none⟩) hl).trans h.c1,(G.frozen (p:=⟨b,0,none⟩) hl).trans h.f0,(G.frozen (p:=⟨b,1,none⟩) hl).trans h.f1,Nat.lt_of_lt_of_le h.lt G.size⟩
def pick3 {α:Type} (a b c:α):Nat->α
 | 0=>a
 | 1=>b
 | _=>c
theorem all3 {p:Nat->Prop} (h0:p 0) (h1:p 1) (h2:p 2):∀ i,i<3->p i
 | 0,_=>h0
 | 1,_=>h1
 | 2,_=>h2
end Go.Proofs.YtbjbjbpgmojcbacGreat
namespace Go.Proofs.YtbjbjbpgmojcbacGreat
open Go.ChangeShapes Go.WideShapes Go.RowKit Go.Deep
theorem weights_all {H:Type} {P:Program} {e:TypeId} {f:Nat->DataW H} {n i:Nat} (hi:i<n) {m:Nat} (h:m ∈ (f i).weights P e):m ∈ DataW.weightsAll P e ((List.range n).map f):=by
 have gen:∀ (l:List (DataW H)) (d:DataW H),d ∈ l->m ∈ d.weights P e->m ∈ DataW.weightsAll P e l:=by
  intro l
  induction l with
  | nil=>intro d h;simp at h
  | cons a l ih =>
   intro d hd hm
   rw [DataW.weightsAll,List.mem_append]
   rcases List.mem_cons.1 hd with rfl | hd
   · exact .inl hm
   · exact .inr (ih d hd hm)
 exact gen _ (f i) (List.mem_map.2 ⟨i,List.mem_range.2 hi,rfl⟩) h
theorem row_lt {W:World} {a:Addr} {n:Nat} {ps:List MemPlace} (h:∀ x ∈ MemPlace.row a (n+1)++ps,x.block<W.heap.size):a.block<W.heap.size:=by
 refine h (.cell a.block (a.off+0)) ?_
 rw [List.mem_append]
 left
 exact List.mem_map.2 ⟨0,List.mem_range.2 (by omega),rfl⟩
end Go.Proofs.YtbjbjbpgmojcbacGreat
namespace Go.Proofs.YtbjbjbpgmojcbacGreat
open Go.ChangeShapes Go.WideShapes Go.RowKit Go.Deep
theorem tx_laid:laidOutB Tryz.prog=true:=by kernel_rfl
theorem tx_cells:Tryz.prog.cellsOf 9=1:=by kernel_rfl
theorem tx_bytes:Tryz.prog.bytesOf 9=16:=by kernel_rfl
theorem open_texts {H:Type} {enc:TypeId × Value->H} {W:World} {a:Option Addr} {len cap fuel:Nat} {d:DataW H} {ps:List MemPlace}
 (hf:DataW.trod enc Tryz.prog W 0 (fun _=>true) true fuel 30 [.slice a len cap]=some (d,ps))
 (hsz:∀ n ∈ d.weights Tryz.prog 30,n<=reachBytes) :
 ∃ l:List ByteArray,len=l.length/\TxSl W a l/\l.length<=8796093022208/\(∀ i,(Tr.xa l i).size<=140737488355328):=by
 have lt:∀ x ∈ ps,x.block<W.heap.size:=DataW.trod_lt fuel _ _ _ hf
 rcases open_slice1 Tryz.underlying30 tx_cells hf with ⟨hcs,_⟩ | ⟨x,len',cap',m,n,V,D,Pl,hcs,_,hl,hm,hmm,hx,each⟩
 · simp at hcs
   obtain ⟨rfl,rfl,rfl⟩:=hcs
   exact ⟨[],rfl,.inl rfl,by simp,fun i=>by show 0<=_;omega⟩
 · simp at hcs
   obtain ⟨rfl,rfl,rfl⟩:=hcs
   simp only [if_true] at hmm
   subst hmm
   have hx1:=congrArg Prod.fst hx
   have hx2:=congrArg Prod.snd hx
   dsimp only at hx1 hx2
   rw [hx1] at hsz
   rw [hx2] at lt
   clear hx hx1 hx2 hf
   have key:∀ i,i<m->∃ q:ByteArray,W.cell? (x.add i)=some (.string q)/\D i=.lit (.string q.data.toList):=by
    intro i hi
    obtain ⟨h1,h2⟩:=each i hi
    obtain ⟨s,hs0,hy0,_⟩:=DataW.trod_string Tryz.underlying9 h2
    simp only [List.cons.injEq,and_true] at hs0
    rw [hs0] at h1
    exact ⟨s,h1,congrArg Prod.fst hy0⟩
   have:Inhabited ByteArray:=⟨⟨#[]⟩⟩
   obtain ⟨q,hq⟩:=choose_lt key
   have hlen:((List.range len).map q).length=len:=by simp
   have hxa:∀ i,i<len->Tr.xa ((List.range len).map q) i=q i:=fun i hi=>by simp [Tr.xa,hi]
   refine ⟨(List.range len).map q,hlen.symm,?_,?_,?_⟩
   · by_cases h0:len=0
     · left;simp [h0]
     · right
       obtain ⟨b,off,sp⟩:=x
       have hc0:=(hq 0 (by omega)).1
       have hsp:sp=none:=by simpa [Addr.add] using World.cell?_spot hc0
       subst hsp
       have hb:b<W.heap.size:=by
        rw [show m=(m - 1)+1 by omega] at lt
        exact row_lt lt
       refine ⟨b,off,rfl,hb,fun i hi=>?_⟩
       rw [hlen] at hi
       rw [hxa i hi,<-(hq i (by omega)).1,add_plain]
   · rw [hlen]
     have:=hsz ((((List.range len).map D).length+((List.range (m - len)).map fun j=>D (len+j)).length)*Tryz.prog.bytesOf 9) (by rw [DataW.weights,Tryz.underlying30];exact List.mem_cons_self ..)
     rw [tx_bytes] at this
     simp [reachBytes] at this
     omega
   · intro i
     by_cases hi:i<len
     · rw [hxa i hi]
       have hd:=(hq i (by omega)).2
       have hw:(q i).data.toList.length ∈ (D i).weights Tryz.prog 9:=by
        rw [hd,DataW.weights]
        exact List.mem_singleton.2 rfl
       have:=hsz _ (by rw [DataW.weights,Tryz.underlying30];exact List.mem_cons_of_mem _ (List.mem_append.2 (.inl (weights_all hi hw))))
       have h2:(q i).data.toList.length=(q i).size:=by simp
       rw [h2] at this
       simp [reachBytes] at this
       omega
     · have:Tr.xa ((List.range len).map q) i=⟨#[]⟩:=by simp [Tr.xa,show len<=i by omega]
       rw [this]
       show 0<=_
       omega
end Go.Proofs.YtbjbjbpgmojcbacGreat
namespace Go.Proofs.YtbjbjbpgmojcbacGreat
open Go.ChangeShapes Go.WideShapes Go.RowKit Go.Deep
theorem fl_cells:Tryz.prog.cellsOf 47=5:=by kernel_rfl
theorem fl_bytes:Tryz.prog.bytesOf 47=56:=by kernel_rfl
theorem fl_str:Tryz.prog.cellsOf 9=1:=by kernel_rfl
theorem fl_int:Tryz.prog.cellsOf 3=1:=by kernel_rfl
theorem ar_cells:Tryz.prog.cellsOf 33=2:=by kernel_rfl
theorem ar_sl1:Tryz.prog.cellsOf 30=1:=by kernel_rfl
theorem ar_sl2:Tryz.prog.cellsOf 31=1:=by kernel_rfl
def fieldsIn:Option TypeDesc->List (TypeId × Nat)
 | some (.struct fs)=>fs.toList.map (fun f=>(f.type,f.offset))
 | _=>[]
theorem fields5 {u:Option TypeDesc} {a0 a1 a2 a3 a4:TypeId × Nat} (h:fieldsIn u=[a0,a1,a2,a3,a4]):∃ f0 f1 f2 f3 f4:Field,u=some (.struct #[f0,f1,f2,f3,f4])/\(f0.type=a0.1/\f0.offset=a0.2)/\(f1.type=a1.1/\f1.offset=a1.2)/\(f2.type=a2.1/\f2.offset=a2.2)/\(f3.type=a3.1/\f3.offset=a3.2)/\(f4.type=a4.1/\f4.offset=a4.2):=by
 unfold fieldsIn at h
 split at h
 · rename_i fs0
   obtain ⟨fs⟩:=fs0
   match fs,h with
   | [f0,f1,f2,f3,f4],h =>
    simp at h
    obtain ⟨rfl,rfl,rfl,rfl,rfl⟩:=h
    exact ⟨f0,f1,f2,f3,f4,rfl,⟨rfl,rfl⟩,⟨rfl,rfl⟩,⟨rfl,rfl⟩,⟨rfl,rfl⟩,⟨rfl,rfl⟩⟩
   | [],h=>simp at h
   | [_],h=>simp at h
   | [_,_],h=>simp at h
   | [_,_,_],h=>simp at h
   | [_,_,_,_],h=>simp at h
   | _ :: _ :: _ :: _ :: _ :: _ :: _,h=>simp at h
 · simp at h
theorem fields2 {u:Option TypeDesc} {a0 a1:TypeId × Nat} (h:fieldsIn u=[a0,a1]):∃ f0 f1:Field,u=some (.struct #[f0,f1])/\(f0.type=a0.1/\f0.offset=a0.2)/\(f1.type=a1.1/\f1.offset=a1.2):=by
 unfold fieldsIn at h
 split at h
 · rename_i fs0
   obtain ⟨fs⟩:=fs0
   match fs,h with
   | [f0,f1],h =>
    simp at h
    obtain ⟨rfl,rfl⟩:=h
    exact ⟨f0,f1,rfl,⟨rfl,rfl⟩,⟨rfl,rfl⟩⟩
   | [],h=>simp at h
   | [_],h=>simp at h
   | _ :: _ :: _ :: _,h=>simp at h
 · simp at h
theorem fl_fields:fieldsIn (Tryz.prog.underlying 47)=[(9,0),(3,1),(3,2),(3,3),(9,4)]:=by kernel_rfl
theorem ar_fields:fieldsIn (Tryz.prog.underlying 33)=[(30,0),(31,1)]:=by kernel_rfl
theorem len5 {α:Type} {l:List α} (h:l.length=5):∃ a b c d e,l=[a,b,c,d,e]:=by
 match l,h with
 | [a,b,c,d,e],_=>exact ⟨a,b,c,d,e,rfl⟩
theorem len2 {α:Type} {l:List α} (h:l.length=2):∃ a b,l=[a,b]:=by
 match l,h with
 | [a,b],_=>exact ⟨a,b,rfl⟩
theorem open_files {H:Type} {enc:TypeId × Value->H} {W:World} {a:Option Addr} {len cap fuel:Nat} {d:DataW H} {ps:List MemPlace}
 (hf:DataW.trod enc Tryz.prog W 0 (fun _=>true) true fuel 31 [.slice a len cap]=some (d,ps))
 (hsz:∀ n ∈ d.weights Tryz.prog 31,n<=reachBytes) :
 ∃ l:List Ar.F,len=l.length/\FlSl W a l/\l.length*56<=140737488355328/\(∀ f ∈ l,f.name.size<=140737488355328/\f.blk.size<=140737488355328):=by
 obtain ⟨f0,f1,f2,f3,f4,hs,⟨t0,o0⟩,⟨t1,o1⟩,⟨t2,o2⟩,⟨t3,o3⟩,⟨t4,o4⟩⟩:=fields5 fl_fields
 have lt:∀ x ∈ ps,x.block<W.heap.size:=DataW.trod_lt fuel _ _ _ hf
 rcases open_slice Tryz.underlying31 hf with ⟨hcs,_⟩ | ⟨x,len',cap',m,n,D,Pl,hcs,_,hl,hm,hmm,hx,each⟩
 · simp at hcs
   obtain ⟨rfl,rfl,rfl⟩:=hcs
   exact ⟨[],rfl,.inl rfl,by simp,by simp⟩
 · simp at hcs
   obtain ⟨rfl,rfl,rfl⟩:=hcs
   simp only [if_true] at hmm
   subst hmm
   have hx1:=congrArg Prod.fst hx
   have hx2:=congrArg Prod.snd hx
   dsimp only at hx1 hx2
   rw [hx1] at hsz
   rw [hx2] at lt
   clear hx hx1 hx2 hf
   have key:∀ i,i<m->∃ q:Ar.F,W.cell? (x.add (i*5))=some (.string q.name)/\W.cell? (x.add (i*5+1))=some (.int .i64 q.dict)/\W.cell? (x.add (i*5+2))=some (.int .i64 q.size)/\W.cell? (x.add (i*5+3))=some (.int .i64 q.sum)/\W.cell? (x.add (i*5+4))=some (.string q.blk)/\D i=.agg [.lit (.string q.name.data.toList),.lit (.int .i64 q.dict),.lit (.int .i64 q.size),.lit (.int .i64 q.sum),.lit (.string q.blk.data.toList)]:=by
    intro i hi
    obtain ⟨cs',h1,h2⟩:=each i hi
    rw [fl_cells] at h1
    obtain ⟨_,hlen,hcell⟩:=World.cells?_some h1
    obtain ⟨xs,k,hk,hxy,_,hxl,hfs⟩:=DataW.trod_struct hs h2
    obtain ⟨y0,y1,y2,y3,y4,rfl⟩:=len5 (show xs.length=5 from hxl)
    obtain ⟨v0,v1,v2,v3,v4,rfl⟩:=len5 hlen
    have g0:=hfs 0 f0 rfl
    have g1:=hfs 1 f1 rfl
    have g2:=hfs 2 f2 rfl
    have g3:=hfs 3 f3 rfl
    have g4:=hfs 4 f4 rfl
    simp [t0,o0,t1,o1,t2,o2,t3,o3,t4,o4,fl_str,fl_int] at g0 g1 g2 g3 g4
    have e0:=hcell 0 (by omega)
    have e1:=hcell 1 (by omega)
    have e2:=hcell 2 (by omega)
    have e3:=hcell 3 (by omega)
    have e4:=hcell 4 (by omega)
    rw [add_add] at e0 e1 e2 e3 e4
    obtain ⟨s,hs0,hy0,_⟩:=DataW.trod_string Tryz.underlying9 g0
    obtain ⟨p,hp0,hy1,_⟩:=DataW.trod_int Tryz.underlying3 g1
    obtain ⟨r,hr0,hy2,_⟩:=DataW.trod_int Tryz.underlying3 g2
    obtain ⟨u,hu0,hy3,_⟩:=DataW.trod_int Tryz.underlying3 g3
    obtain ⟨z,hz0,hy4,_⟩:=DataW.trod_string Tryz.underlying9 g4
    simp only [List.cons.injEq,and_true] at hs0 hp0 hr0 hu0 hz0
    subst hs0 hp0 hr0 hu0 hz0 hy0 hy1 hy2 hy3 hy4
    simp only [Prod.mk.injEq] at hxy
    exact ⟨⟨s,p,r,u,z⟩,by simpa using e0,by simpa using e1,by simpa using e2,by simpa using e3,by simpa using e4,by simpa using hxy.1⟩
   have:Inhabited Ar.F:=⟨Ar.fz⟩
   obtain ⟨q,hq⟩:=choose_lt key
   have hlen:((List.range len).map q).length=len:=by simp
   refine ⟨(List.range len).map q,hlen.symm,?_,?_,?_⟩
   · by_cases h0:len=0
     · left;simp [h0]
     · right
       obtain ⟨b,off,sp⟩:=x
       have hc0:=(hq 0 (by omega)).1
       have hsp:sp=none:=by simpa [Addr.add] using World.cell?_spot hc0
       subst hsp
       have hb:b<W.heap.size:=by
        rw [fl_cells,show m*5=(m*5 - 1)+1 by omega] at lt
        exact row_lt lt
       refine ⟨b,off,rfl,hb,fun i hi=>?_⟩
       rw [hlen] at hi
       obtain ⟨q0,q1,q2,q3,q4,_⟩:=hq i (by omega)
       have e:Ar.fa ((List.range len).map q) i=q i:=by simp [Ar.fa,hi]
       rw [e]
       refine ⟨?_,?_,?_,?_,?_⟩
       · rw [<-q0,add_plain]
       · rw [<-q1,add_plain,Nat.add_assoc]
       · rw [<-q2,add_plain,Nat.add_assoc]
       · rw [<-q3,add_plain,Nat.add_assoc]
       · rw [<-q4,add_plain,Nat.add_assoc]
   · rw [hlen]
     have:=hsz ((((List.range len).map D).length+((List.range (m - len)).map fun j=>D (len+j)).length)*Tryz.prog.bytesOf 47) (by rw [DataW.weights,Tryz.underlying31];exact List.mem_cons_self ..)
     rw [fl_bytes] at this
     simp [reachBytes] at this
     omega
   · intro t ht
     obtain ⟨i,hi,rfl⟩:=List.mem_map.1 ht
     have hi':=List.mem_range.1 hi
     have hd:=(hq i (by omega)).2.2.2.2.2
     have hw1:(q i).name.data.toList.length ∈ (D i).weights Tryz.prog 47:=by
      rw [hd,DataW.weights,hs]
      simp only [List.map_cons,List.map_nil]
      rw [DataW.weightsEach,List.mem_append]
      left
      rw [DataW.weights]
      exact List.mem_singleton.2 rfl
     have hw2:(q i).blk.data.toList.length ∈ (D i).weights Tryz.prog 47:=by
      rw [hd,DataW.weights,hs]
      simp only [List.map_cons,List.map_nil]
      rw [DataW.weightsEach,List.mem_append]
      right
      rw [DataW.weightsEach,List.mem_append]
      right
      rw [DataW.weightsEach,List.mem_append]
      right
      rw [DataW.weightsEach,List.mem_append]
      right
      rw [DataW.weightsEach,List.mem_append]
      left
      rw [DataW.weights]
      exact List.mem_singleton.2 rfl
     have k1:=hsz _ (by rw [DataW.weights,Tryz.underlying31];exact List.mem_cons_of_mem _ (List.mem_append.2 (.inl (weights_all hi' hw1))))
     have k2:=hsz _ (by rw [DataW.weights,Tryz.underlying31];exact List.mem_cons_of_mem _ (List.mem_append.2 (.inl (weights_all hi' hw2))))
     have j1:(q i).name.data.toList.length=(q i).name.size:=by simp
     have j2:(q i).blk.data.toList.length=(q i).blk.size:=by simp
     rw [j1] at k1
     rw [j2] at k2
     simp [reachBytes] at k1 k2
     omega
theorem slice_is {H:Type} {enc:TypeId × Value->H} {P:Program} {W:World} {fuel:Nat} {t e:TypeId} {v:Value} {x:DataW H × List MemPlace} (hu:P.underlying t=some (.slice e)) (h:DataW.trod enc P W 0 (fun _=>true) true fuel t [v]=some x):∃ a len cap,v=.slice a len cap:=by
 rcases DataW.trod_slice hu h with ⟨h1,_⟩ | ⟨a,len,cap,_,_,_,_,h1,_⟩
 · simp at h1;exact ⟨_,_,_,h1⟩
 · simp at h1;exact ⟨_,_,_,h1⟩
theorem open_arch {H:Type} {enc:TypeId × Value->H} {W:World} {v:Value} {d:DataW H} {ps:List MemPlace} {r:Reach} {b0:Nat}
 (hv:Value.okWide Tryz.prog W r b0 33 v)
 (h:DataW.Trod enc Tryz.prog W 0 (fun _=>true) true 33 v d ps)
 (hsz:∀ n ∈ d.weights Tryz.prog 33,n<=reachBytes) :
 ∃ ad cd af cf a,v=av ad cd af cf a/\ArV W ad af a/\SaneA a/\a.files.length*56<=140737488355328:=by
 obtain ⟨f0,f1,hs,⟨t0,o0⟩,⟨t1,o1⟩⟩:=fields2 ar_fields
 obtain ⟨xs0,rfl,_⟩:=okWide_struct hs hv
 obtain ⟨xs⟩:=xs0
 obtain ⟨fuel,hf⟩:=h
 obtain ⟨y0,y1,n,hx,hl,g0,g1⟩:=trod_struct2 hs hf
 rw [ar_cells] at hl
 simp only [Value.cells] at hl g0 g1
 obtain ⟨v0,v1,rfl⟩:=len2 hl
 simp [t0,o0,t1,o1,ar_sl1,ar_sl2] at g0 g1
 obtain ⟨ad,n1,cd,rfl⟩:=slice_is Tryz.underlying30 g0
 obtain ⟨af,n2,cf,rfl⟩:=slice_is Tryz.underlying31 g1
 have hd:=congrArg Prod.fst hx
 dsimp only at hd
 have hw:∀ n,n ∈ y0.1.weights Tryz.prog 30\/n ∈ y1.1.weights Tryz.prog 31->n<=reachBytes:=by
  intro n hn
  refine hsz n ?_
  rw [hd,DataW.weights,hs]
  simp only [List.map_cons,List.map_nil,t0,t1]
  rw [DataW.weightsEach,List.mem_append,DataW.weightsEach,List.mem_append]
  rcases hn with hn | hn
  · exact .inl hn
  · exact .inr (.inl hn)
 obtain ⟨l1,rfl,S1,N1,M1⟩:=open_texts g0 (fun n hn=>hw n (.inl hn))
 obtain ⟨l2,rfl,S2,N2,M2⟩:=open_files g1 (fun n hn=>hw n (.inr hn))
 refine ⟨ad,cd,af,cf,⟨l1,l2⟩,rfl,⟨S1,S2⟩,sane_of N1 (by show l2.length<=_;omega) (fun d hd=>?_) M2,N2⟩
 obtain ⟨i,hi,rfl⟩:=List.getElem_of_mem hd
 have:=M1 i
 simpa [Tr.xa,hi] using this
end Go.Proofs.YtbjbjbpgmojcbacGreat
