/- A part of the proof: what it leans on. -/
import Derived.Laws.NewBlocks
import Derived.Laws.AppendOwn
import Derived.Test.YtbjbjbpgmojcbabGreatLsBook10
set_option maxRecDepth 8000
set_option maxHeartbeats 4000000
namespace Go.Proofs.YtbjbjbpgmojcbabGreat
open Go.RowKit
theorem Zse (n:Nat):(Builtin.zeroCells (Value.agg #[.string ⟨#[]⟩,.int .i64 0,.int .i64 0,.int .i64 0,.string ⟨#[]⟩]).cells n).size=n*5:=by
 simp [Builtin.zeroCells,Value.cells]
theorem Zid (lo:Nat) (fs:List Ar.F) (f:Ar.F) (g i:Nat) (cur:Array Value) (vb:Nat) (t:TypeId) (w:World) (hg:w.heap[g]?=some (.cells cur 46 (0,0))) (hlo:lo<=w.heap.size) (hcur:cur.size=fs.length*5) (htk:cur.toList.take (fs.length*5)=fcs fs)
 (hn:fs.length<=12) (hi:i<fs.length) (hvb:w.heap[vb]?=some (.cells (fc f).toArray t (0,0))) :
 Calls Tryz.prog 54 #[.slice (some ⟨g,0,none⟩) fs.length fs.length,.int .i64 (i:Nat),.slice (some ⟨vb,0,none⟩) 1 1] w fun e w'=>Zbe lo (fs.take i++f :: fs.drop i) (.slice (some ⟨g,0,none⟩) fs.length fs.length) w e w':=by
 obtain ⟨j0,gi,gz0,gz1,gz2⟩:=info_parts (P:=Tryz.prog) (e:=46) (z:=.agg #[.string ⟨#[]⟩,.int .i64 0,.int .i64 0,.int .i64 0,.string ⟨#[]⟩]) (size:=5) (bytes:=56) (by kernel_rfl);have hfl:(fc f).length=5:=rfl;have hcl:(fcs fs).length=fs.length*5:=Zah fs;have hgl:g<w.heap.size:=Array.getElem?_eq_some_iff.mp hg |>.1
 have hvl:vb<w.heap.size:=Array.getElem?_eq_some_iff.mp hvb |>.1
 have hcells:∀ (W:World) (o:Nat),(∀ j,W.cell? ⟨g,j,none⟩=w.cell? ⟨g,j,none⟩)->∀ j v,((fcs fs).drop o)[j]?=some v->W.cell? ((⟨g,o,none⟩:Addr).add j)=some v:=fun W o hW j v hj=>by
  rw [Go.WideShapes.add_plain,hW,ZhR hg,<-Array.getElem?_toList];rw [List.getElem?_drop,<-htk,List.getElem?_take] at hj;split at hj
  ·exact hj
  ·cases hj
 have hkk:(fs.length:Int)+1 - (i:Int)=((fs.length+1 - i:Nat):Int):=by omega
 have hik:i+(fs.length+1 - i)=fs.length+1:=by omega
 obtain ⟨G,hG⟩:∃ G,G=grownCap w (fs.length+1) fs.length 46:=⟨_,rfl⟩
 obtain ⟨Z,hZ⟩:∃ Z:List Value,Z=(Builtin.zeroCells (Value.agg #[.string ⟨#[]⟩,.int .i64 0,.int .i64 0,.int .i64 0,.string ⟨#[]⟩]).cells (fs.length+1 - i)++Builtin.zeroCells (Value.agg #[.string ⟨#[]⟩,.int .i64 0,.int .i64 0,.int .i64 0,.string ⟨#[]⟩]).cells (G - (fs.length+1))).toList:=⟨_,rfl⟩
 obtain ⟨ROW,hROW⟩:∃ ROW:Array Value,ROW=((fcs fs).take (i*5)).toArray++Builtin.zeroCells (Value.agg #[.string ⟨#[]⟩,.int .i64 0,.int .i64 0,.int .i64 0,.string ⟨#[]⟩]).cells (fs.length+1 - i)++Builtin.zeroCells (Value.agg #[.string ⟨#[]⟩,.int .i64 0,.int .i64 0,.int .i64 0,.string ⟨#[]⟩]).cells (G - (fs.length+1)):=⟨_,rfl⟩
 have hRl:ROW.toList=(fcs fs).take (i*5)++Z:=by rw [hROW,hZ];simp
 have hGn:fs.length+1<=G:=by rw [hG];exact grownCap_ge w _ _ _
 have hGm:G<=maxLen:=by rw [hG];exact grownCap_le_maxLen w _ _ _ (by unfold maxLen;omega)
 have hRs:ROW.size=G*5:=by
  rw [hROW];simp only [Array.size_append,Zse,List.size_toArray,List.length_take,hcl];omega
 have hrz:∀ ty,(Builtin.append_ #[23,3] ty #[.slice (some ⟨g,0,none⟩) i fs.length,.int .i64 ((fs.length:Int)+1 - (i:Int))]).run Tryz.prog w =
  .ok (.slice (some ⟨w.heap.size,0,none⟩) (fs.length+1) G) (w.drew.alloc (.cells ROW 46)):=fun ty=>by
  have hold:(Builtin.firstCells j0.size i (.slice (some ⟨g,0,none⟩) i fs.length)).run Tryz.prog w.drew=.ok ((fcs fs).take (i*5)).toArray w.drew:=by
   rw [gz1]
   exact run_firstCells_some w.drew 5 i ⟨g,0,none⟩ i fs.length ((fcs fs).take (i*5)) (by rw [List.length_take,hcl];omega) (fun j v hj=>by
    rw [List.getElem?_take] at hj;split at hj
    ·exact hcells w.drew 0 (fun _=>rfl) j v hj
    ·cases hj)
  have h:=Lib.run_append_grow_zeros w 23 3 ty 46 j0 _ .i64 .i64 U23 zU3 gi gz0 (some ⟨g,0,none⟩) i fs.length ((fcs fs).take (i*5)) hold (fs.length+1 - i) (by omega) (by omega) (by omega) (by omega) (by rw [gz2];omega) (by rw [gz2,hik];exact growslice_fits (by omega) (by omega));rw [hik,<-hG,<-hROW] at h;rw [hkk];exact h
 obtain ⟨cur1,hcur1⟩:∃ cur1:Array Value,cur1=(ROW.toList.take (i*5)++fc f++ROW.toList.drop (i*5+(fc f).length)).toArray:=⟨_,rfl⟩
 obtain ⟨cur2,hcur2⟩:∃ cur2:Array Value,cur2=(cur1.toList.take (i*5+5)++(fcs fs).drop (i*5)++cur1.toList.drop (i*5+5+((fcs fs).drop (i*5)).length)).toArray:=⟨_,rfl⟩
 have hRL:ROW.toList.length=G*5:=by rw [Array.length_toList,hRs]
 have h2c:=ZlJ (cs:=fcs fs) (nw:=fc f) (z:=Z) (m:=fs.length*5) (i:=i*5) hcl (by rw [<-hRl];omega) (by omega) hfl;simp only at h2c;rw [<-hRl] at h2c;have hl1:cur1.toList=ROW.toList.take (i*5)++fc f++ROW.toList.drop (i*5+(fc f).length):=by rw [hcur1]
 rw [<-hl1] at h2c;have hl2:cur2.toList=cur1.toList.take (i*5+5)++(fcs fs).drop (i*5)++cur1.toList.drop (i*5+5+((fcs fs).drop (i*5)).length):=by rw [hcur2]
 rw [<-hl2] at h2c
 have hs1:cur1.size=G*5:=by
  rw [<-Array.length_toList,hl1];simp only [List.length_append,List.length_take,List.length_drop,Array.length_toList,hRs,hfl];omega
 obtain ⟨W1,hW1⟩:∃ W1,W1=(w.alloc (.cells ROW 46)).drew:=⟨_,rfl⟩
 have hg1:W1.heap[w.heap.size]?=some (.cells ROW 46 (0,0)):=by
  rw [hW1];show (w.heap.push _)[w.heap.size]?=_;rw [Array.getElem?_push_size]
 have hother:∀ k,k<w.heap.size->W1.heap[k]?=w.heap[k]?:=fun k hk=>by
  rw [hW1];show (w.heap.push _)[k]?=_;rw [Array.getElem?_push,if_neg (by omega)]
 have hv1:W1.heap[vb]?=some (.cells (fc f).toArray t (0,0)):=(hother vb hvl).trans hvb
 have hcp1:∀ ty dc,(Builtin.copy_ #[23,23] ty #[.slice (some ⟨w.heap.size,i*5,none⟩) (fs.length+1 - i) dc,.slice (some ⟨vb,0,none⟩) 1 1]).run Tryz.prog W1=.ok (goInt 1) (W1.setRow w.heap.size cur1):=fun ty dc=>by
  have hm:Nat.min 1 (fs.length+1 - i)=1:=by simp only [Nat.min_def];split <;> omega
  have:=ZaN W1 23 23 ty 46 w.heap.size (i*5) (fs.length+1 - i) dc ⟨vb,0,none⟩ 1 1 ROW 46 (fc f) U23 ZcL hg1 (by rw [hm];rfl) (Ztr hv1) (by rw [hfl,hRs];omega) (one5 _ _ _ _ _);rw [hm,<-hcur1] at this;exact this
 obtain ⟨W2,hW2⟩:∃ W2,W2=(W1.setRow w.heap.size cur1).drew:=⟨_,rfl⟩
 have hg2:W2.heap[w.heap.size]?=some (.cells cur1 46 (0,0)):=by rw [hW2];exact setRow_heap W1 w.heap.size ROW cur1 _ _ hg1
 have hgg2:W2.heap[g]?=w.heap[g]?:=by rw [hW2];exact (setRow_other W1 w.heap.size g cur1 (by omega)).trans (hother g hgl)
 have hcp2:∀ ty dc sc,(Builtin.copy_ #[23,23] ty #[.slice (some ⟨w.heap.size,(i+1)*5,none⟩) (fs.length - i) dc,.slice (some ⟨g,i*5,none⟩) (fs.length - i) sc]).run Tryz.prog W2=.ok (goInt ((fs.length - i:Nat):Int)) (W2.setRow w.heap.size cur2):=fun ty dc sc=>by
  have hm:Nat.min (fs.length - i) (fs.length - i)=fs.length - i:=by simp only [Nat.min_def];split <;> omega
  have:=ZaN W2 23 23 ty 46 w.heap.size (i*5+5) (fs.length - i) dc ⟨g,i*5,none⟩ (fs.length - i) sc cur1 46 ((fcs fs).drop (i*5)) U23 ZcL hg2 (by rw [hm,List.length_drop,hcl];omega)
   (hcells W2 (i*5) (fun j=>by rw [ZhR (hgg2.trans hg),ZhR hg]))
   (by rw [List.length_drop,hcl,hs1];omega) (fun v hv=>ZeY fs v (List.mem_of_mem_drop hv))
  rw [hm,<-hcur2] at this;rw [show (i+1)*5=i*5+5 by omega];exact this
 have hfin:Zbe lo (fs.take i++f :: fs.drop i) (.slice (some ⟨g,0,none⟩) fs.length fs.length) w (.returned (.slice (some ⟨w.heap.size,0,none⟩) (fs.length+1) G)) (W2.setRow w.heap.size cur2):=by
  have hlen:(fs.take i++f :: fs.drop i).length=fs.length+1:=by rw [List.length_append,List.length_cons,List.length_take,List.length_drop];omega
  refine ⟨w.heap.size,G,by rw [hlen],?_,?_,.inr (nl _)⟩
  ·rw [hlen];refine ⟨by rw [Zah,hlen],.inr ⟨w.heap.size,G,cur2,rfl,hlo,setRow_heap _ _ cur1 cur2 _ _ hg2,hGn,hGm,?_,?_⟩⟩
   ·rw [<-hRs,<-Array.length_toList,h2c.1,Array.length_toList]
   ·rw [show (fs.length+1)*5=fs.length*5+5 by omega,h2c.2,Znb]
  ·refine ⟨by rw [hW2,hW1];rfl,by rw [hW2,hW1];rfl,by rw [hW2,hW1];rfl,?_,fun k hk hne=>?_⟩
   ·rw [hW2,hW1];refine nt ?_ ((Zan _ _ _).4);refine nt ?_ ((Zan (w.alloc (.cells ROW 46)).drew w.heap.size cur1).4);show w.heap.size<=(w.heap.push _).size;rw [Array.size_push];omega
   ·rw [setRow_other W2 w.heap.size k cur2 (by omega),hW2];exact (setRow_other W1 w.heap.size k cur1 (by omega)).trans (hother k hk)
 subst hW2;subst hW1;have hneg:g ≠ w.heap.size:=by omega
 clear hl1 hl2 hcur1 hcur2 h2c htk hcl hcur hs1 hg hvb hg1 hv1 hfl hcells hother hg2 hgg2 hRs hRl hRL hZ hROW hG hkk hik;generalize (Zbe lo (fs.take i++f :: fs.drop i) (.slice (some ⟨g,0,none⟩) fs.length fs.length) w)=Q at *;generalize fs.length=N at *;have hz2:¬ ((i:Int)=(N:Int)):=by omega
 have hz3:(N:Int)<(N:Int)+1:=by omega
 have hb3:(i:Int)<=(N:Int):=by omega
 have hcN:¬ N=i:=by omega
 have hGi:¬ G=i:=by omega
 have hGi1:¬ G=i+1:=by omega
 have hNi:(N:Int)<=12:=by omega
 have hii:(i:Int)<(N:Int):=by omega
 have hcm:(G:Int)<=9223372036854775807:=by unfold maxLen at hGm;omega
 have hGn':(N:Int)+1<=(G:Int):=by omega
 have hw1:IntKind.i64.wrap ((i:Int)+1)=(i:Int)+1:=by rw [IntKind.wrap_i64];omega
 have hb1:(0:Int)<=(i:Int)+1:=by omega
 have htn:((i:Int)+1).toNat=i+1:=by omega
 have hin1:(i:Int)+1<=(N:Int)+1:=by omega
 have hin2:i<=N:=by omega
 have hin3:i<=N+1:=by omega
 have hin4:i+1<=N+1:=by omega
 go_enter Tryz.func54,Tryz.ntmps54
 go_wp2_with (first
  | (at_builtin;refine Lib.wpList_append_run _ rfl _ _ _ _ rfl _ _ rfl rfl _ _ (hrz _) ?_)
  | (at_builtin;refine wpList_copy_runI _ rfl _ _ 23 23 rfl _ _ rfl rfl (hcp1 _ _) ?_)
  | (at_builtin;refine wpList_copy_runI _ rfl _ _ 23 23 rfl _ _ rfl rfl (hcp2 _ _ _) ?_)
  | fail)
 go_region_law (refine step_copy_runI rfl _ _ 23 23 rfl _ _ (by simp [Act.eval,Act.put]) (by simp [Act.eval,Act.put]) (hcp2 _ _ _) ?_)
 go_wp2
 exact hfin
theorem ZkI (lo:Nat) (fs:List Ar.F) (f:Ar.F) (v2:Value) (i vb:Nat) (t:TypeId) (w:World) (hown:w.ownsRow lo 46 5 v2 fs.length (fcs fs)) (hn:fs.length<=12) (hi:i<=fs.length) (hvb:w.heap[vb]?=some (.cells (fc f).toArray t (0,0))) (hne:v2.ownBlock ≠ some vb) (hlo:lo<=w.heap.size) :
 Calls Tryz.prog 54 #[v2,.int .i64 (i:Nat),.slice (some ⟨vb,0,none⟩) 1 1] w fun e w'=>Zbe lo (fs.take i++f :: fs.drop i) v2 w e w':=by
 by_cases he:i=fs.length
 ·subst he;rw [List.take_of_length_le (Nat.le_refl _),List.drop_of_length_le (Nat.le_refl _)];exact ZlK lo fs f v2 vb t w hown hn hvb hlo
 ·rcases hown.2 with ⟨rfl,h0⟩ | ⟨g,cap,cur,rfl,h2,h3,h4,h5,h6,h7⟩
  ·omega
  ·by_cases hr:fs.length+1<=cap
   ·exact ZhD lo fs f g cap i cur vb t w h3 h2 h5 h6 h7 hn (by omega) hr hvb (fun e=>hne (by rw [e];rfl))
   ·obtain rfl:cap=fs.length:=by omega
    exact Zid lo fs f g i cur vb t w h3 hlo h6 h7 hn (by omega) hvb
def ArSaid (w:World) (a:Ar.A) (E:Int) (e:Ending) (w':World):Prop:=∃ v1 v2,e=.returned (.tuple #[.agg #[v1,v2],.int .i64 E])/\ArOwn w.heap.size w' v1 v2 a/\Below w.heap.size w w'
theorem Zib (lo:Nat) (w:World):ArOwn lo w (.slice none 0 0) (.slice none 0 0) Ar.az:=⟨⟨rfl,.inl ⟨rfl,rfl⟩⟩,⟨rfl,.inl ⟨rfl,rfl⟩⟩,fun j hj=>by simp [Value.ownBlock] at hj⟩
theorem Zy {w w':World} {E:Int} (h:Below w.heap.size w w'):ArSaid w Ar.az E (.returned (.tuple #[.agg #[.slice none 0 0,.slice none 0 0],.int .i64 E])) w':=⟨_,_,rfl,Zib _ _,h⟩
structure Fr (w w':World) (x y:Value):Prop where
 b:Below w.heap.size w w'
 a0:w'.cell? ⟨w.heap.size,0,none⟩=some x
 a1:w'.cell? ⟨w.heap.size,1,none⟩=some y
 r0:w'.cell? ⟨w.heap.size+1,0,none⟩=some (.slice none 0 0)
 r1:w'.cell? ⟨w.heap.size+1,1,none⟩=some (.slice none 0 0)
 z0:w'.frozen? ⟨w.heap.size+1,0,none⟩=false
 z1:w'.frozen? ⟨w.heap.size+1,1,none⟩=false
 hz:w.heap.size+1<w'.heap.size
theorem Fr.next {w w' w2:World} {x y:Value} (h:Fr w w' x y) (G:Below w'.heap.size w' w2):Fr w w2 x y:=by
 have h1:w.heap.size<w'.heap.size:=by have:=h.hz;omega
 exact ⟨bch h.b G (nl _),(G.cell (p:=⟨w.heap.size,0,none⟩) h1).trans h.a0,(G.cell (p:=⟨w.heap.size,1,none⟩) h1).trans h.a1,(G.cell (p:=⟨w.heap.size+1,0,none⟩) h.hz).trans h.r0,(G.cell (p:=⟨w.heap.size+1,1,none⟩) h.hz).trans h.r1,
  (G.frozen (p:=⟨w.heap.size+1,0,none⟩) h.hz).trans h.z0,(G.frozen (p:=⟨w.heap.size+1,1,none⟩) h.hz).trans h.z1,nT h.hz G.size⟩
theorem Fr.start (w:World) (x y:Value):Fr w ((w.alloc (.cells #[x,y] 25 (0,0))).alloc (.cells #[.slice none 0 0,.slice none 0 0] 25 (0,0))) x y:=by
 obtain ⟨k1,k2⟩:=box2 w #[x,y] #[.slice none 0 0,.slice none 0 0] 25 25;refine ⟨((bR _ _).alloc (nl _) _).alloc (by simp) _,k1 0,k1 1,k2 0,k2 1,?_,?_,by simp⟩
 ·exact fN _ _ _ _ (by simp)
 ·exact fN _ _ _ _ (by simp)
theorem Fr.zero {w w':World} {x y:Value} (h:Fr w w' x y):(w'.setCell ⟨w.heap.size+1,0,none⟩ (.slice none 0 0)).setCell ⟨w.heap.size+1,1,none⟩ (.slice none 0 0)=w':=by
 rw [ZR h.r0,ZR h.r1]
theorem Zsk (ad af:Option Addr) (cd cf:Nat) (a:Ar.A) (name text:ByteArray) (dict:Int) (w:World) (h:ArV w ad af a) (hs:SaneA a) (hc:Ar.chk a ≠ 0) :
 Calls Tryz.prog 13 #[av ad cd af cf a,.string name,.string text,.int .i64 dict] w fun e w'=>ArSaid w Ar.az (Ar.chk a) e w':=by
 have C1:Hid (∀ w',Below w.heap.size w w'->Calls Tryz.prog 18 #[av ad cd af cf a] w' fun e w2=>e=.returned (.int .i64 (Ar.chk a))/\Below w'.heap.size w' w2):=fun w' h9=>Zx ad af cd cf a w' (h.below h9) hs
 have hQ:Hid (∀ w',Below w.heap.size w w'->ArSaid w Ar.az (Ar.chk a) (.returned (.tuple #[.agg #[.slice none 0 0,.slice none 0 0],.int .i64 (Ar.chk a)])) w'):=fun w' h9=>Zy h9
 generalize ArSaid w Ar.az (Ar.chk a)=Q at *;unfold av at C1 |-
 generalize Ar.chk a=E at *;generalize a.dicts.length=D at *;generalize a.files.length=N at *;have e1:(E != 0)=true:=by simpa using hc
 have e2:(E == 0)=false:=by simpa using hc
 clear h hs;go_enter Tryz.func13,Tryz.ntmps13
 go_wp2_with fail
 refine (C1.out _ (Fr.start w _ _).b).mono ?_;rintro e w1 ⟨rfl,G1⟩;have F1:=(Fr.start w _ _).next G1;clear G1;obtain ⟨b,a0,a1,r0,r1,z0,z1,hz⟩:=id F1;go_wp2_with fail
 rw [F1.zero];exact bodyPost_ret (v:=.tuple #[.agg #[.slice none 0 0,.slice none 0 0],.int .i64 E]) (by simp [results,Tryz.results13,go_sem,F1.r0,F1.r1]) rfl (hQ.out _ F1.b)
theorem ZuA (ad af:Option Addr) (cd cf:Nat) (a:Ar.A) (name text:ByteArray) (dict:Int) (w:World) (h:ArV w ad af a) (hs:SaneA a) (hn:name.size<=140737488355328) (hc:Ar.chk a=0) (hm:Ar.isNm name=false) :
 Calls Tryz.prog 13 #[av ad cd af cf a,.string name,.string text,.int .i64 dict] w fun e w'=>ArSaid w Ar.az 4 e w':=by
 have C1:Hid (∀ w',Below w.heap.size w w'->Calls Tryz.prog 18 #[av ad cd af cf a] w' fun e w2=>e=.returned (.int .i64 (Ar.chk a))/\Below w'.heap.size w' w2):=fun w' h9=>Zx ad af cd cf a w' (h.below h9) hs
 have C2:Hid (∀ w',Calls Tryz.prog 49 #[.string name] w' fun e w2=>e=.returned (.bool (Ar.isNm name))/\w2=w'):=fun w'=>Zaz name w' hn
 have hQ:Hid (∀ w',Below w.heap.size w w'->ArSaid w Ar.az 4 (.returned (.tuple #[.agg #[.slice none 0 0,.slice none 0 0],.int .i64 4])) w'):=fun w' h9=>Zy h9
 generalize ArSaid w Ar.az 4=Q at *;rw [hc] at C1;rw [hm] at C2;unfold av at C1 |-
 generalize a.dicts.length=D at *;generalize a.files.length=N at *;clear h hs hn hc hm;go_enter Tryz.func13,Tryz.ntmps13
 go_wp2_with fail
 refine (C1.out _ (Fr.start w _ _).b).mono ?_;rintro e w1 ⟨rfl,G1⟩;have F1:=(Fr.start w _ _).next G1;clear G1;obtain ⟨b,a0,a1,r0,r1,z0,z1,hz⟩:=id F1;go_wp2_with fail
 refine (C2.out _).mono ?_;rintro e w2 ⟨rfl,rfl⟩;go_wp2_with fail
 rw [F1.zero];exact bodyPost_ret (v:=.tuple #[.agg #[.slice none 0 0,.slice none 0 0],.int .i64 4]) (by simp [results,Tryz.results13,go_sem,F1.r0,F1.r1]) rfl (hQ.out _ F1.b)
theorem Zqr (ad af:Option Addr) (cd cf:Nat) (a:Ar.A) (name text:ByteArray) (dict:Int) (w:World) (h:ArV w ad af a) (hs:SaneA a) (hn:name.size<=140737488355328) (hc:Ar.chk a=0) (hm:Ar.isNm name=true) (hd:Ar.has a.dicts dict=false) :
 Calls Tryz.prog 13 #[av ad cd af cf a,.string name,.string text,.int .i64 dict] w fun e w'=>ArSaid w Ar.az 3 e w':=by
 have C1:Hid (∀ w',Below w.heap.size w w'->Calls Tryz.prog 18 #[av ad cd af cf a] w' fun e w2=>e=.returned (.int .i64 (Ar.chk a))/\Below w'.heap.size w' w2):=fun w' h9=>Zx ad af cd cf a w' (h.below h9) hs
 have C2:Hid (∀ w',Calls Tryz.prog 49 #[.string name] w' fun e w2=>e=.returned (.bool (Ar.isNm name))/\w2=w'):=fun w'=>Zaz name w' hn
 have C3:Hid (∀ w',Calls Tryz.prog 50 #[av ad cd af cf a,.int .i64 dict] w' fun e w2=>e=.returned (.bool (Ar.has a.dicts dict))/\Below w'.heap.size w' w2):=fun w'=>Zax ad af cd cf a dict w' hs.nd
 have hQ:Hid (∀ w',Below w.heap.size w w'->ArSaid w Ar.az 3 (.returned (.tuple #[.agg #[.slice none 0 0,.slice none 0 0],.int .i64 3])) w'):=fun w' h9=>Zy h9
 generalize ArSaid w Ar.az 3=Q at *;rw [hc] at C1;rw [hm] at C2;rw [hd] at C3;unfold av at C1 C3 |-
 generalize a.dicts.length=D at *;generalize a.files.length=N at *;clear h hs hn hc hm hd;go_enter Tryz.func13,Tryz.ntmps13
 go_wp2_with fail
 refine (C1.out _ (Fr.start w _ _).b).mono ?_;rintro e w1 ⟨rfl,G1⟩;have F1:=(Fr.start w _ _).next G1;clear G1;obtain ⟨b,a0,a1,r0,r1,z0,z1,hz⟩:=id F1;go_wp2_with fail
 refine (C2.out _).mono ?_;rintro e w2 ⟨rfl,rfl⟩;go_wp2_with fail
 refine (C3.out _).mono ?_;rintro e w3 ⟨rfl,G3⟩;clear b a0 a1 r0 r1 z0 z1 hz;have F3:=F1.next G3;clear G3;obtain ⟨b,a0,a1,r0,r1,z0,z1,hz⟩:=id F3;go_wp2_with fail
 rw [F3.zero];exact bodyPost_ret (v:=.tuple #[.agg #[.slice none 0 0,.slice none 0 0],.int .i64 3]) (by simp [results,Tryz.results13,go_sem,F3.r0,F3.r1]) rfl (hQ.out _ F3.b)
theorem ZpW (ad af:Option Addr) (cd cf:Nat) (a:Ar.A) (name text:ByteArray) (dict:Int) (w:World) (h:ArV w ad af a) (hs:SaneA a) (hn:name.size<=140737488355328) (ht:text.size<=140737488355328) (hc:Ar.chk a=0) (hm:Ar.isNm name=true) (hd:Ar.has a.dicts dict=true) (hl:512<text.size) :
 Calls Tryz.prog 13 #[av ad cd af cf a,.string name,.string text,.int .i64 dict] w fun e w'=>ArSaid w Ar.az 2 e w':=by
 have C1:Hid (∀ w',Below w.heap.size w w'->Calls Tryz.prog 18 #[av ad cd af cf a] w' fun e w2=>e=.returned (.int .i64 (Ar.chk a))/\Below w'.heap.size w' w2):=fun w' h9=>Zx ad af cd cf a w' (h.below h9) hs
 have C2:Hid (∀ w',Calls Tryz.prog 49 #[.string name] w' fun e w2=>e=.returned (.bool (Ar.isNm name))/\w2=w'):=fun w'=>Zaz name w' hn
 have C3:Hid (∀ w',Calls Tryz.prog 50 #[av ad cd af cf a,.int .i64 dict] w' fun e w2=>e=.returned (.bool (Ar.has a.dicts dict))/\Below w'.heap.size w' w2):=fun w'=>Zax ad af cd cf a dict w' hs.nd
 have hsr:=Ar.Zbc hc;obtain ⟨m1,m2,m3⟩:=Ar.Zw.1 (Ar.Zd.1 hc).1;have C4:Hid (∀ w',Below w.heap.size w w'->Calls Tryz.prog 51 #[av ad cd af cf a,.string name] w' fun e w2=>e=.returned (.tuple #[.int .i64 (Ar.pos a.files name:Nat),.bool (Ar.ZK a.files name)])/\Below w'.heap.size w' w2):=fun w' h9=>ZbT ad af cd cf a name w' (h.fs.below h9) (by omega) hsr
 have hQ:Hid (∀ w',Below w.heap.size w w'->ArSaid w Ar.az 2 (.returned (.tuple #[.agg #[.slice none 0 0,.slice none 0 0],.int .i64 2])) w'):=fun w' h9=>Zy h9
 generalize ArSaid w Ar.az 2=Q at *;rw [hc] at C1;rw [hm] at C2;rw [hd] at C3;have hp:=Ar.ZbL a.files name;generalize Ar.pos a.files name=p at *;generalize Ar.ZK a.files name=T at *;unfold av at C1 C3 C4 |-
 clear h hs hn hc hm hd hsr m3;generalize a.dicts.length=D at *;generalize a.files.length=N at *;have hl':(512:Int)<(text.size:Int):=by omega
 have d1:decide ((512:Int)<(text.size:Int))=true:=zdT hl';go_enter Tryz.func13,Tryz.ntmps13
 go_wp2_with fail
 refine (C1.out _ (Fr.start w _ _).b).mono ?_;rintro e w1 ⟨rfl,G1⟩;have F1:=(Fr.start w _ _).next G1;clear G1;obtain ⟨b,a0,a1,r0,r1,z0,z1,hz⟩:=id F1;go_wp2_with fail
 refine (C2.out _).mono ?_;rintro e w2 ⟨rfl,rfl⟩;go_wp2_with fail
 refine (C3.out _).mono ?_;rintro e w3 ⟨rfl,G3⟩;clear b a0 a1 r0 r1 z0 z1 hz;have F3:=F1.next G3;clear G3;obtain ⟨b,a0,a1,r0,r1,z0,z1,hz⟩:=id F3;go_wp2_with fail
 refine (C4.out _ F3.b).mono ?_;rintro e w4 ⟨rfl,G4⟩;clear b a0 a1 r0 r1 z0 z1 hz;have F4:=F3.next G4;clear G4;obtain ⟨b,a0,a1,r0,r1,z0,z1,hz⟩:=id F4;go_wp2_with fail
 rw [F4.zero];exact bodyPost_ret (v:=.tuple #[.agg #[.slice none 0 0,.slice none 0 0],.int .i64 2]) (by simp [results,Tryz.results13,go_sem,F4.r0,F4.r1]) rfl (hQ.out _ F4.b)
theorem ZoT (ad af:Option Addr) (cd cf:Nat) (a:Ar.A) (name text:ByteArray) (dict:Int) (w:World) (h:ArV w ad af a) (hs:SaneA a) (hn:name.size<=140737488355328) (hc:Ar.chk a=0) (hm:Ar.isNm name=true) (hd:Ar.has a.dicts dict=true) (hl:text.size<=512) (hT:Ar.ZK a.files name=false) (hF:a.files.length=12) :
 Calls Tryz.prog 13 #[av ad cd af cf a,.string name,.string text,.int .i64 dict] w fun e w'=>ArSaid w Ar.az 2 e w':=by
 have C1:Hid (∀ w',Below w.heap.size w w'->Calls Tryz.prog 18 #[av ad cd af cf a] w' fun e w2=>e=.returned (.int .i64 (Ar.chk a))/\Below w'.heap.size w' w2):=fun w' h9=>Zx ad af cd cf a w' (h.below h9) hs
 have C2:Hid (∀ w',Calls Tryz.prog 49 #[.string name] w' fun e w2=>e=.returned (.bool (Ar.isNm name))/\w2=w'):=fun w'=>Zaz name w' hn
 have C3:Hid (∀ w',Calls Tryz.prog 50 #[av ad cd af cf a,.int .i64 dict] w' fun e w2=>e=.returned (.bool (Ar.has a.dicts dict))/\Below w'.heap.size w' w2):=fun w'=>Zax ad af cd cf a dict w' hs.nd
 have hsr:=Ar.Zbc hc;obtain ⟨m1,m2,m3⟩:=Ar.Zw.1 (Ar.Zd.1 hc).1;have C4:Hid (∀ w',Below w.heap.size w w'->Calls Tryz.prog 51 #[av ad cd af cf a,.string name] w' fun e w2=>e=.returned (.tuple #[.int .i64 (Ar.pos a.files name:Nat),.bool (Ar.ZK a.files name)])/\Below w'.heap.size w' w2):=fun w' h9=>ZbT ad af cd cf a name w' (h.fs.below h9) (by omega) hsr
 have hQ:Hid (∀ w',Below w.heap.size w w'->ArSaid w Ar.az 2 (.returned (.tuple #[.agg #[.slice none 0 0,.slice none 0 0],.int .i64 2])) w'):=fun w' h9=>Zy h9
 generalize ArSaid w Ar.az 2=Q at *;rw [hc] at C1;rw [hm] at C2;rw [hd] at C3;rw [hT] at C4;have hp:=Ar.ZbL a.files name;generalize Ar.pos a.files name=p at *;unfold av at C1 C3 C4 |-
 clear h hs hn hc hm hd hsr m3 hT;rw [hF] at C1 C3 C4 |-
 generalize a.dicts.length=D at *;have hl':¬ (512:Int)<(text.size:Int):=by omega
 have d1:decide ((512:Int)<(text.size:Int))=false:=dF hl';go_enter Tryz.func13,Tryz.ntmps13
 go_wp2_with fail
 refine (C1.out _ (Fr.start w _ _).b).mono ?_;rintro e w1 ⟨rfl,G1⟩;have F1:=(Fr.start w _ _).next G1;clear G1;obtain ⟨b,a0,a1,r0,r1,z0,z1,hz⟩:=id F1;go_wp2_with fail
 refine (C2.out _).mono ?_;rintro e w2 ⟨rfl,rfl⟩;go_wp2_with fail
 refine (C3.out _).mono ?_;rintro e w3 ⟨rfl,G3⟩;clear b a0 a1 r0 r1 z0 z1 hz;have F3:=F1.next G3;clear G3;obtain ⟨b,a0,a1,r0,r1,z0,z1,hz⟩:=id F3;go_wp2_with fail
 refine (C4.out _ F3.b).mono ?_;rintro e w4 ⟨rfl,G4⟩;clear b a0 a1 r0 r1 z0 z1 hz;have F4:=F3.next G4;clear G4;obtain ⟨b,a0,a1,r0,r1,z0,z1,hz⟩:=id F4;go_wp2_with fail
 rw [F4.zero];exact bodyPost_ret (v:=.tuple #[.agg #[.slice none 0 0,.slice none 0 0],.int .i64 2]) (by simp [results,Tryz.results13,go_sem,F4.r0,F4.r1]) rfl (hQ.out _ F4.b)
theorem ZoI:∀ (fs:List Ar.F) (i:Nat) (f:Ar.F),i<fs.length->fcs (fs.take i++f :: fs.drop (i+1))=(fcs fs).take (i*5)++fc f++(fcs fs).drop (i*5+5):=by
 intro fs i f _;rw [Zz,fcs,Zeg,ZdZ,List.append_assoc,show (i+1)*5=i*5+5 by omega];rfl
theorem Zla {fs:List Ar.F} {f:Ar.F} (h:Ar.ZK fs f.name=true):Ar.putF fs f=fs.take (Ar.pos fs f.name)++f :: fs.drop (Ar.pos fs f.name+1):=by
 unfold Ar.putF;rw [if_pos h]
theorem ZqD {fs:List Ar.F} {f:Ar.F} (h:Ar.ZK fs f.name=false):Ar.putF fs f=fs.take (Ar.pos fs f.name)++f :: fs.drop (Ar.pos fs f.name):=by
 unfold Ar.putF;rw [if_neg (by rw [h];decide),Nat.add_zero]
theorem ZgW (A R:List Value) (x v:Value) (o:Nat) (h:A.length=o):(A++x :: R).set o v=A++v :: R:=by
 subst h;simp
theorem ZpH {l:List Value} {o:Nat} (v0 v1 v2 v3 v4:Value) (h:o+5<=l.length):((((l.set o v0).set (o+1) v1).set (o+2) v2).set (o+3) v3).set (o+4) v4=l.take o++[v0,v1,v2,v3,v4]++l.drop (o+5):=by
 have hA:(l.take o).length=o:=by rw [List.length_take];omega
 have hl:l=l.take o++l.drop o:=(List.take_append_drop o l).symm;have hd:l.drop (o+5)=(l.drop o).drop 5:=by rw [List.drop_drop]
 rw [hd];have hD:5<=(l.drop o).length:=by rw [List.length_drop];omega
 generalize l.take o=A at *;generalize l.drop o=D at *;subst hl
 match D,hD with
 | x0 :: x1 :: x2 :: x3 :: x4 :: R,_ =>
  rw [ZgW A _ x0 v0 o hA];rw [show A++v0 :: x1 :: x2 :: x3 :: x4 :: R=(A++[v0])++x1 :: x2 :: x3 :: x4 :: R by simp,ZgW (A++[v0]) _ x1 v1 (o+1) (by simp [hA])];rw [show (A++[v0])++v1 :: x2 :: x3 :: x4 :: R=(A++[v0,v1])++x2 :: x3 :: x4 :: R by simp,ZgW (A++[v0,v1]) _ x2 v2 (o+2) (by simp [hA])];rw [show (A++[v0,v1])++v2 :: x3 :: x4 :: R=(A++[v0,v1,v2])++x3 :: x4 :: R by simp,ZgW (A++[v0,v1,v2]) _ x3 v3 (o+3) (by simp [hA])];rw [show (A++[v0,v1,v2])++v3 :: x4 :: R=(A++[v0,v1,v2,v3])++x4 :: R by simp,ZgW (A++[v0,v1,v2,v3]) _ x4 v4 (o+4) (by simp [hA])];simp
theorem ZaU {w:World} {g o:Nat} {cur:Array Value} {t:TypeId} (v:Value) (h:w.heap[g]?=some (.cells cur t (0,0))):(w.setCell ⟨g,o,none⟩ v).heap[g]?=some (.cells (cur.setIfInBounds o v) t (0,0)):=by
 simp [World.setCell,Array.getElem?_modify,h]
theorem ZrS {w:World} {g o:Nat} {cur:Array Value} {t:TypeId} (v0 v1 v2 v3 v4:Value) (h:w.heap[g]?=some (.cells cur t (0,0))) (ho:o+5<=cur.size) :
 (w5s w g o v0 v1 v2 v3 v4).heap[g]?=some (.cells (cur.toList.take o++[v0,v1,v2,v3,v4]++cur.toList.drop (o+5)).toArray t (0,0)):=by
 have h0:=ZaU (o:=o) v0 h;have h1:=ZaU (o:=o+1) v1 h0;have h2:=ZaU (o:=o+2) v2 h1;have h3:=ZaU (o:=o+3) v3 h2;have h4:=ZaU (o:=o+4) v4 h3
 have e:((((cur.setIfInBounds o v0).setIfInBounds (o+1) v1).setIfInBounds (o+2) v2).setIfInBounds (o+3) v3).setIfInBounds (o+4) v4=(cur.toList.take o++[v0,v1,v2,v3,v4]++cur.toList.drop (o+5)).toArray:=by
  apply Array.toList_inj.1;simp only [Array.toList_setIfInBounds];exact ZpH v0 v1 v2 v3 v4 (by simpa using ho)
 rw [e] at h4;unfold w5s;exact h4
theorem ZcT (w:World) (g o:Nat) (v0 v1 v2 v3 v4:Value):w.grownBy (w5s w g o v0 v1 v2 v3 v4) (some g):=by
 unfold w5s;have h0:=Zb w ⟨g,o,none⟩ v0;generalize w.setCell ⟨g,o,none⟩ v0=w0 at *;have h1:=Zb w0 ⟨g,o+1,none⟩ v1;generalize w0.setCell ⟨g,o+1,none⟩ v1=w1 at *;have h2:=Zb w1 ⟨g,o+2,none⟩ v2;generalize w1.setCell ⟨g,o+2,none⟩ v2=w2 at *;have h3:=Zb w2 ⟨g,o+3,none⟩ v3;generalize w2.setCell ⟨g,o+3,none⟩ v3=w3 at *;have h4:=Zb w3 ⟨g,o+4,none⟩ v4;exact (((h0.trans h1).trans h2).trans h3).trans h4
theorem Zgu {w:World} {lo g cap i:Nat} {fs:List Ar.F} (f:Ar.F) (h:w.ownsRow lo 46 5 (.slice (some ⟨g,0,none⟩) fs.length cap) fs.length (fcs fs)) (hi:i<fs.length) :
 (w5s w g (i*5) (.string f.name) (.int .i64 f.dict) (.int .i64 f.size) (.int .i64 f.sum) (.string f.blk)).ownsRow lo 46 5 (.slice (some ⟨g,0,none⟩) fs.length cap) fs.length (fcs (fs.take i++f :: fs.drop (i+1))):=by
 have hcl:=Zah fs;rcases h.2 with ⟨h1,h2⟩ | ⟨g',cap',cur,h1,h2,h3,h4,h5,h6,h7⟩
 ·omega
 ·simp only [Value.slice.injEq,Option.some.injEq,Addr.mk.injEq] at h1;obtain ⟨⟨rfl,_⟩,_,rfl⟩:=h1;have hsz:i*5+5<=cur.size:=by omega
  refine ⟨?_,.inr ⟨g,cap,_,rfl,h2,ZrS _ _ _ _ _ h3 hsz,h4,h5,?_,?_⟩⟩
  ·rw [ZoI fs i f hi];simp only [List.length_append,List.length_take,List.length_drop,fc,List.length_cons,List.length_nil];omega
  ·rw [List.size_toArray];simp only [List.length_append,List.length_take,List.length_drop,List.length_cons,List.length_nil,Array.length_toList];omega
  ·rw [ZoI fs i f hi,<-h7];have e1:cur.toList.length=cap*5:=by simpa using h6
   show List.take (fs.length*5) (cur.toList.take (i*5)++fc f++cur.toList.drop (i*5+5))=_;rw [List.take_append,List.take_of_length_le (by simp only [List.length_append,List.length_take,fc,List.length_cons,List.length_nil];omega),List.take_take,List.drop_take];have e3:min (i*5) (fs.length*5)=i*5:=by omega
   have e4:(cur.toList.take (i*5)++fc f).length=i*5+5:=by simp only [List.length_append,List.length_take,fc,List.length_cons,List.length_nil];omega
   rw [e3,e4]
theorem Zbb {w wf:World} {v1 v2:Value} {n1 n2 lo:Nat} {xs1 xs2:List Value} {u0 u1:Value} (b:Below w.heap.size w wf) (o1:wf.ownsRow lo 9 1 v1 n1 xs1) (o2:wf.ownsRow lo 46 5 v2 n2 xs2) (hlo:w.heap.size+1<lo)
 (r0:wf.cell? ⟨w.heap.size+1,0,none⟩=some u0) (r1:wf.cell? ⟨w.heap.size+1,1,none⟩=some u1) :
 Below w.heap.size w ((wf.setCell ⟨w.heap.size+1,0,none⟩ v1).setCell ⟨w.heap.size+1,1,none⟩ v2)/\((wf.setCell ⟨w.heap.size+1,0,none⟩ v1).setCell ⟨w.heap.size+1,1,none⟩ v2).ownsRow w.heap.size 9 1 v1 n1 xs1/\((wf.setCell ⟨w.heap.size+1,0,none⟩ v1).setCell ⟨w.heap.size+1,1,none⟩ v2).ownsRow w.heap.size 46 5 v2 n2 xs2 ∧
 ((wf.setCell ⟨w.heap.size+1,0,none⟩ v1).setCell ⟨w.heap.size+1,1,none⟩ v2).cell? ⟨w.heap.size+1,0,none⟩=some v1/\((wf.setCell ⟨w.heap.size+1,0,none⟩ v1).setCell ⟨w.heap.size+1,1,none⟩ v2).cell? ⟨w.heap.size+1,1,none⟩=some v2:=by
 have g1:=Zb wf ⟨w.heap.size+1,0,none⟩ v1;have g2:=Zb (wf.setCell ⟨w.heap.size+1,0,none⟩ v1) ⟨w.heap.size+1,1,none⟩ v2;refine ⟨(b.setCell (by show _<=w.heap.size+1;omega) _).setCell (by show _<=w.heap.size+1;omega) _,?_,?_,?_,?_⟩
 ·exact ZcA ((o1.kept g1 (.inr (Zat o1 (by show w.heap.size+1<_;omega)).symm)).kept g2 (.inr (Zat o1 (by show w.heap.size+1<_;omega)).symm)) (by omega)
 ·exact ZcA ((o2.kept g1 (.inr (Zat o2 (by show w.heap.size+1<_;omega)).symm)).kept g2 (.inr (Zat o2 (by show w.heap.size+1<_;omega)).symm)) (by omega)
 ·rw [ZaH _ _ _ _ _ (by decide)];exact ZiO r0
 ·exact ZiO ((ZaH _ _ _ _ _ (by decide)).trans r1)
theorem Zoz (ad af:Option Addr) (cd cf:Nat) (a:Ar.A) (name text:ByteArray) (dict:Int) (w:World) (h:ArV w ad af a) (hs:SaneA a) (hn:name.size<=140737488355328) (hc:Ar.chk a=0) (hm:Ar.isNm name=true) (hd:Ar.has a.dicts dict=true) (hl:text.size<=512) (hT:Ar.ZK a.files name=true) :
 Calls Tryz.prog 13 #[av ad cd af cf a,.string name,.string text,.int .i64 dict] w fun e w'=>ArSaid w ⟨a.dicts,Ar.putF a.files (Ar.pk a.dicts name text dict)⟩ 0 e w':=by
 have C1:Hid (∀ w',Below w.heap.size w w'->Calls Tryz.prog 18 #[av ad cd af cf a] w' fun e w2=>e=.returned (.int .i64 (Ar.chk a))/\Below w'.heap.size w' w2):=fun w' h9=>Zx ad af cd cf a w' (h.below h9) hs
 have C2:Hid (∀ w',Calls Tryz.prog 49 #[.string name] w' fun e w2=>e=.returned (.bool (Ar.isNm name))/\w2=w'):=fun w'=>Zaz name w' hn
 have C3:Hid (∀ w',Calls Tryz.prog 50 #[av ad cd af cf a,.int .i64 dict] w' fun e w2=>e=.returned (.bool (Ar.has a.dicts dict))/\Below w'.heap.size w' w2):=fun w'=>Zax ad af cd cf a dict w' hs.nd
 have hsr:=Ar.Zbc hc;obtain ⟨m1,m2,m3⟩:=Ar.Zw.1 (Ar.Zd.1 hc).1;have C4:Hid (∀ w',Below w.heap.size w w'->Calls Tryz.prog 51 #[av ad cd af cf a,.string name] w' fun e w2=>e=.returned (.tuple #[.int .i64 (Ar.pos a.files name:Nat),.bool (Ar.ZK a.files name)])/\Below w'.heap.size w' w2):=fun w' h9=>ZbT ad af cd cf a name w' (h.fs.below h9) (by omega) hsr
 have hdz:(Ar.dct a.dicts dict).size<=256:=Ar.ZaM (Ar.Zd.1 hc).1 dict;have C5:Hid (∀ w',Below w.heap.size w w'->Calls Tryz.prog 52 #[av ad cd af cf a,.string name,.string text,.int .i64 dict] w' fun e w2=>e=.returned (.tuple #[fv (Ar.pk a.dicts name text dict),.int .i64 0])/\Below w'.heap.size w' w2):=fun w' h9=>ZbK ad af cd cf a name text dict w' (h.ds.below h9) m1 hdz hd hl hn
 have C6:Hid (∀ w',Below w.heap.size w w'->Calls Tryz.prog 53 #[av ad cd af cf a] w' fun e w2=>∃ v1 v2,e=.returned (.agg #[v1,v2])/\ArOwn w'.heap.size w2 v1 v2 a/\Below w'.heap.size w' w2):=fun w' h9=>Zbk ad af cd cf a w' (h.below h9) hs m1 m2
 rw [hc] at C1;rw [hm] at C2;rw [hd] at C3;rw [hT] at C4;have hp:=(Ar.ZY hT).1;have hP:Ar.putF a.files (Ar.pk a.dicts name text dict)=_:=Zla (f:=Ar.pk a.dicts name text dict) hT
 have HO:Hid (∀ lo g cap w',w'.ownsRow lo 46 5 (.slice (some ⟨g,0,none⟩) a.files.length cap) a.files.length (fcs a.files)->(w5s w' g (Ar.pos a.files name*5) (.string name) (.int .i64 dict) (.int .i64 (text.size:Int)) (.int .i64 (Ar.sm text)) (.string (Bk.pak (Ar.dct a.dicts dict) text).1)).ownsRow lo 46 5 (.slice (some ⟨g,0,none⟩) a.files.length cap) a.files.length (fcs (Ar.putF a.files (Ar.pk a.dicts name text dict)))):=fun lo g cap w' h9=>by
  rw [hP];exact Zgu (Ar.pk a.dicts name text dict) h9 hp
 have e1:fv (Ar.pk a.dicts name text dict)=.agg #[.string name,.int .i64 dict,.int .i64 (text.size:Int),.int .i64 (Ar.sm text),.string (Bk.pak (Ar.dct a.dicts dict) text).1]:=rfl;rw [e1] at C5
 have hpl:(Ar.putF a.files (Ar.pk a.dicts name text dict)).length=a.files.length:=by
  rw [hP];simp only [List.length_append,List.length_take,List.length_cons,List.length_drop];show min (Ar.pos a.files name) _+(a.files.length - (Ar.pos a.files name+1)+1)=_;omega
 have hQ:Hid (∀ v1 v2 w',w'.ownsRow w.heap.size 9 1 v1 a.dicts.length (a.dicts.map Value.string)->w'.ownsRow w.heap.size 46 5 v2 a.files.length (fcs (Ar.putF a.files (Ar.pk a.dicts name text dict)))->(∀ j,v1.ownBlock=some j->v2.ownBlock ≠ some j)->Below w.heap.size w w'->ArSaid w ⟨a.dicts,Ar.putF a.files (Ar.pk a.dicts name text dict)⟩ 0 (.returned (.tuple #[.agg #[v1,v2],.int .i64 0])) w'):=fun v1 v2 w' h1 h2 h3 h4=>⟨v1,v2,rfl,⟨h1,by show w'.ownsRow _ _ _ _ (Ar.putF a.files (Ar.pk a.dicts name text dict)).length _;rw [hpl];exact h2,h3⟩,h4⟩
 generalize ArSaid w ⟨a.dicts,Ar.putF a.files (Ar.pk a.dicts name text dict)⟩ 0=Q at *;generalize fcs (Ar.putF a.files (Ar.pk a.dicts name text dict))=FC at *;clear hP hpl e1
 have HA:Hid (∀ lo w' v1 v2,ArOwn lo w' v1 v2 a->w'.ownsRow lo 9 1 v1 a.dicts.length (a.dicts.map Value.string)/\w'.ownsRow lo 46 5 v2 a.files.length (fcs a.files)/\(∀ j,v1.ownBlock=some j->v2.ownBlock ≠ some j)):=fun lo w' v1 v2 h9=>⟨h9.o1,h9.o2,h9.ne⟩
 generalize fcs a.files=FA at *;generalize (Bk.pak (Ar.dct a.dicts dict) text).1=K at *;generalize Ar.sm text=M at *;generalize Ar.pos a.files name=p at *;unfold av at C1 C3 C4 C5 C6 |-
 clear h hs hn hc hm hd hsr m3 hT;generalize a.dicts.length=D at *;generalize a.files.length=N at *;have hl':¬ (512:Int)<(text.size:Int):=by omega
 have d1:decide ((512:Int)<(text.size:Int))=false:=dF hl';go_enter Tryz.func13,Tryz.ntmps13
 go_wp2_with fail
 refine (C1.out _ (Fr.start w _ _).b).mono ?_;rintro e w1 ⟨rfl,G1⟩;have F1:=(Fr.start w _ _).next G1;clear G1;obtain ⟨b,a0,a1,r0,r1,z0,z1,hz⟩:=id F1;go_wp2_with fail
 refine (C2.out _).mono ?_;rintro e w2 ⟨rfl,rfl⟩;go_wp2_with fail
 refine (C3.out _).mono ?_;rintro e w3 ⟨rfl,G3⟩;clear b a0 a1 r0 r1 z0 z1 hz;have F3:=F1.next G3;clear G3;obtain ⟨b,a0,a1,r0,r1,z0,z1,hz⟩:=id F3;go_wp2_with fail
 refine (C4.out _ F3.b).mono ?_;rintro e w4 ⟨rfl,G4⟩;clear b a0 a1 r0 r1 z0 z1 hz;have F4:=F3.next G4;clear G4;obtain ⟨b,a0,a1,r0,r1,z0,z1,hz⟩:=id F4;go_wp2_with fail
 refine (C5.out _ F4.b).mono ?_;rintro e w5 ⟨rfl,G5⟩;clear b a0 a1 r0 r1 z0 z1 hz;have F5:=F4.next G5;clear G5;obtain ⟨b,a0,a1,r0,r1,z0,z1,hz⟩:=id F5;have hz5:w.heap.size<w5.heap.size:=by omega
 go_wp2_with fail
 have F6:=F5.next ((bR _ _).alloc (nl _) (.cells #[.string name,.int .i64 dict,.int .i64 (text.size:Int),.int .i64 M,.string K] 46 (0,0)));refine (C6.out _ F6.b).mono ?_;rintro e w6 ⟨v1,v2,rfl,O6,G6⟩;have F7:=F6.next G6;have hlt6:w5.heap.size<w6.heap.size:=by have:=G6.size;simp at this;omega
 have hf:=fun j=>(G6.cell (p:=⟨w5.heap.size,j,none⟩) (by simp)).trans (cN _ _ _ j)
 have f0:w6.cell? ⟨w5.heap.size,0,none⟩=some (.string name):=hf 0;have f1:w6.cell? ⟨w5.heap.size,1,none⟩=some (.int .i64 dict):=hf 1;have f2:w6.cell? ⟨w5.heap.size,2,none⟩=some (.int .i64 (text.size:Int)):=hf 2;have f3:w6.cell? ⟨w5.heap.size,3,none⟩=some (.int .i64 M):=hf 3;have f4:w6.cell? ⟨w5.heap.size,4,none⟩=some (.string K):=hf 4;obtain ⟨o1,o2,o3⟩:=HA.out _ _ _ _ O6;have hlo:w.heap.size+1<(w5.alloc (.cells #[.string name,.int .i64 dict,.int .i64 (text.size:Int),.int .i64 M,.string K] 46 (0,0))).heap.size:=F6.hz;generalize (w5.alloc (.cells #[.string name,.int .i64 dict,.int .i64 (text.size:Int),.int .i64 M,.string K] 46 (0,0))).heap.size=lo at o1 o2 hlo;clear hf G6 F6 O6 HA b a0 a1 r0 r1 z0 z1 hz C1 C2 C3 C4 C5 C6;obtain ⟨b,a0,a1,r0,r1,z0,z1,hz⟩:=id F7;obtain ⟨p1,q1,rfl,_⟩:=Zk o1;clear F1 F3 F4 F5;rcases o2.2 with ⟨_,h2⟩ | ⟨g,cap,cur,rfl,h2,h3,h4,h5,h6,h7⟩
 ·omega
 ·have hg6:g<w6.heap.size:=Array.getElem?_eq_some_iff.mp h3 |>.1
  have hcs:∀ j,j<cur.size->w6.cell? ⟨g,j,none⟩=some (cur.getD j undef):=fun j hj=>by
   rw [ZhR h3,Array.getElem?_eq_getElem hj];simp [Array.getD,hj]
  have g0:=hcs (p*5) (by omega);have g1:=hcs (p*5+1) (by omega);have g2:=hcs (p*5+2) (by omega);have g3:=hcs (p*5+3) (by omega);have g4:=hcs (p*5+4) (by omega);have y:=ZeF h3;have y0:=y (p*5);have y1:=y (p*5+1);have y2:=y (p*5+2);have y3:=y (p*5+3);have y4:=y (p*5+4);have hpN:(p:Int)<(N:Int):=by omega
  have hz6:w.heap.size<w6.heap.size:=by omega
  generalize cur.getD (p*5) undef=u0 at *;generalize cur.getD (p*5+1) undef=u1 at *;generalize cur.getD (p*5+2) undef=u2 at *;generalize cur.getD (p*5+3) undef=u3 at *;generalize cur.getD (p*5+4) undef=u4 at *;have gr:=ZcT w6 g (p*5) (.string name) (.int .i64 dict) (.int .i64 (text.size:Int)) (.int .i64 M) (.string K);have P1:=HO.out lo g cap w6 o2;have P0:=o1.kept gr (.inr (fun e=>o3 g e rfl));have hRg:some (w.heap.size+1) ≠ some g:=by simp;omega
  obtain ⟨Bz,Oz1,Oz2,Rz0,Rz1⟩:=Zbb (ZfJ b g (p*5) (.string name) (.int .i64 dict) (.int .i64 (text.size:Int)) (.int .i64 M) (.string K) (by omega)) P0 P1 hlo (Ze gr r0 hRg) (Ze gr r1 hRg);clear h3 h6 h7 hcs y HO gr P0 P1;go_wp2_with fail
  unfold w5s at Bz Oz1 Oz2 Rz0 Rz1;have hzz:=cL _ _ Rz0;generalize (((((((w6.setCell ⟨g,p*5,none⟩ (.string name)).setCell ⟨g,p*5+1,none⟩ (.int .i64 dict)).setCell ⟨g,p*5+2,none⟩ (.int .i64 (text.size:Int))).setCell ⟨g,p*5+3,none⟩ (.int .i64 M)).setCell ⟨g,p*5+4,none⟩ (.string K)).setCell ⟨w.heap.size+1,0,none⟩ (.slice p1 D q1)).setCell ⟨w.heap.size+1,1,none⟩ (.slice (some ⟨g,0,none⟩) N cap))=wz at *;have k0:=(cA wz (.cells #[.slice p1 D q1,.slice (some ⟨g,0,none⟩) N cap] 25 (0,0)) ⟨w.heap.size+1,0,none⟩ hzz).trans Rz0;have k1:=(cA wz (.cells #[.slice p1 D q1,.slice (some ⟨g,0,none⟩) N cap] 25 (0,0)) ⟨w.heap.size+1,1,none⟩ hzz).trans Rz1;have q1':=Oz1.alloc (.cells #[.slice p1 D q1,.slice (some ⟨g,0,none⟩) N cap] 25 (0,0));have q2':=Oz2.alloc (.cells #[.slice p1 D q1,.slice (some ⟨g,0,none⟩) N cap] 25 (0,0));have B':=Bz.alloc (by have:w.heap.size+1<wz.heap.size:=hzz;omega) (.cells #[.slice p1 D q1,.slice (some ⟨g,0,none⟩) N cap] 25 (0,0));generalize (wz.alloc (.cells #[.slice p1 D q1,.slice (some ⟨g,0,none⟩) N cap] 25 (0,0)))=wy at *;exact bodyPost_ret (v:=.tuple #[.agg #[.slice p1 D q1,.slice (some ⟨g,0,none⟩) N cap],.int .i64 0]) (by simp [results,Tryz.results13,go_sem,k0,k1]) rfl (hQ.out _ _ _ q1' q2' o3 B')
theorem ZsS (ad af:Option Addr) (cd cf:Nat) (a:Ar.A) (name text:ByteArray) (dict:Int) (w:World) (h:ArV w ad af a) (hs:SaneA a) (hn:name.size<=140737488355328) (hc:Ar.chk a=0) (hm:Ar.isNm name=true) (hd:Ar.has a.dicts dict=true) (hl:text.size<=512) (hT:Ar.ZK a.files name=false) (h12:a.files.length<12) :
 Calls Tryz.prog 13 #[av ad cd af cf a,.string name,.string text,.int .i64 dict] w fun e w'=>ArSaid w ⟨a.dicts,Ar.putF a.files (Ar.pk a.dicts name text dict)⟩ 0 e w':=by
 have C1:Hid (∀ w',Below w.heap.size w w'->Calls Tryz.prog 18 #[av ad cd af cf a] w' fun e w2=>e=.returned (.int .i64 (Ar.chk a))/\Below w'.heap.size w' w2):=fun w' h9=>Zx ad af cd cf a w' (h.below h9) hs
 have C2:Hid (∀ w',Calls Tryz.prog 49 #[.string name] w' fun e w2=>e=.returned (.bool (Ar.isNm name))/\w2=w'):=fun w'=>Zaz name w' hn
 have C3:Hid (∀ w',Calls Tryz.prog 50 #[av ad cd af cf a,.int .i64 dict] w' fun e w2=>e=.returned (.bool (Ar.has a.dicts dict))/\Below w'.heap.size w' w2):=fun w'=>Zax ad af cd cf a dict w' hs.nd
 have hsr:=Ar.Zbc hc;obtain ⟨m1,m2,m3⟩:=Ar.Zw.1 (Ar.Zd.1 hc).1;have C4:Hid (∀ w',Below w.heap.size w w'->Calls Tryz.prog 51 #[av ad cd af cf a,.string name] w' fun e w2=>e=.returned (.tuple #[.int .i64 (Ar.pos a.files name:Nat),.bool (Ar.ZK a.files name)])/\Below w'.heap.size w' w2):=fun w' h9=>ZbT ad af cd cf a name w' (h.fs.below h9) (by omega) hsr
 have hdz:(Ar.dct a.dicts dict).size<=256:=Ar.ZaM (Ar.Zd.1 hc).1 dict;have C5:Hid (∀ w',Below w.heap.size w w'->Calls Tryz.prog 52 #[av ad cd af cf a,.string name,.string text,.int .i64 dict] w' fun e w2=>e=.returned (.tuple #[fv (Ar.pk a.dicts name text dict),.int .i64 0])/\Below w'.heap.size w' w2):=fun w' h9=>ZbK ad af cd cf a name text dict w' (h.ds.below h9) m1 hdz hd hl hn
 have C6:Hid (∀ w',Below w.heap.size w w'->Calls Tryz.prog 53 #[av ad cd af cf a] w' fun e w2=>∃ v1 v2,e=.returned (.agg #[v1,v2])/\ArOwn w'.heap.size w2 v1 v2 a/\Below w'.heap.size w' w2):=fun w' h9=>Zbk ad af cd cf a w' (h.below h9) hs m1 m2
 rw [hc] at C1;rw [hm] at C2;rw [hd] at C3;rw [hT] at C4;have hp:=Ar.ZbL a.files name;have hP:Ar.putF a.files (Ar.pk a.dicts name text dict)=a.files.take (Ar.pos a.files name)++Ar.pk a.dicts name text dict :: a.files.drop (Ar.pos a.files name):=ZqD (f:=Ar.pk a.dicts name text dict) hT
 have hpl:(Ar.putF a.files (Ar.pk a.dicts name text dict)).length=a.files.length+1:=by
  rw [hP];simp only [List.length_append,List.length_take,List.length_cons,List.length_drop];omega
 have CI:Hid (∀ lo w' v2 vb,w'.ownsRow lo 46 5 v2 a.files.length (fcs a.files)->w'.heap[vb]?=some (.cells #[.string name,.int .i64 dict,.int .i64 (text.size:Int),.int .i64 (Ar.sm text),.string (Bk.pak (Ar.dct a.dicts dict) text).1] 46 (0,0))->v2.ownBlock ≠ some vb->lo<=w'.heap.size →
  Calls Tryz.prog 54 #[v2,.int .i64 (Ar.pos a.files name:Nat),.slice (some ⟨vb,0,none⟩) 1 1] w' fun e w2=>∃ g cap,e=.returned (.slice (some ⟨g,0,none⟩) (a.files.length+1) cap)/\w2.ownsRow lo 46 5 (.slice (some ⟨g,0,none⟩) (a.files.length+1) cap) (a.files.length+1) (fcs (Ar.putF a.files (Ar.pk a.dicts name text dict)))/\w'.grownBy w2 v2.ownBlock/\(v2.ownBlock=some g\/w'.heap.size<=g)):=fun lo w' v2 vb h1 h2 h3 h4=>by
  have:=ZkI lo a.files (Ar.pk a.dicts name text dict) v2 (Ar.pos a.files name) vb 46 w' h1 m2 hp h2 h3 h4;unfold Zbe at this;rw [<-hP,hpl] at this;exact this
 have e1:fv (Ar.pk a.dicts name text dict)=.agg #[.string name,.int .i64 dict,.int .i64 (text.size:Int),.int .i64 (Ar.sm text),.string (Bk.pak (Ar.dct a.dicts dict) text).1]:=rfl;rw [e1] at C5
 have hQ:Hid (∀ v1 v2 w',w'.ownsRow w.heap.size 9 1 v1 a.dicts.length (a.dicts.map Value.string)->w'.ownsRow w.heap.size 46 5 v2 (a.files.length+1) (fcs (Ar.putF a.files (Ar.pk a.dicts name text dict)))->(∀ j,v1.ownBlock=some j->v2.ownBlock ≠ some j)->Below w.heap.size w w'->ArSaid w ⟨a.dicts,Ar.putF a.files (Ar.pk a.dicts name text dict)⟩ 0 (.returned (.tuple #[.agg #[v1,v2],.int .i64 0])) w'):=fun v1 v2 w' h1 h2 h3 h4=>⟨v1,v2,rfl,⟨h1,by show w'.ownsRow _ _ _ _ (Ar.putF a.files (Ar.pk a.dicts name text dict)).length _;rw [hpl];exact h2,h3⟩,h4⟩
 generalize ArSaid w ⟨a.dicts,Ar.putF a.files (Ar.pk a.dicts name text dict)⟩ 0=Q at *;generalize fcs (Ar.putF a.files (Ar.pk a.dicts name text dict))=FC at *;clear hP hpl e1
 have HA:Hid (∀ lo w' v1 v2,ArOwn lo w' v1 v2 a->w'.ownsRow lo 9 1 v1 a.dicts.length (a.dicts.map Value.string)/\w'.ownsRow lo 46 5 v2 a.files.length (fcs a.files)/\(∀ j,v1.ownBlock=some j->v2.ownBlock ≠ some j)):=fun lo w' v1 v2 h9=>⟨h9.o1,h9.o2,h9.ne⟩
 generalize fcs a.files=FA at *;generalize (Bk.pak (Ar.dct a.dicts dict) text).1=K at *;generalize Ar.sm text=M at *;generalize Ar.pos a.files name=p at *;unfold av at C1 C3 C4 C5 C6 |-
 clear h hs hn hc hm hd hsr m3 hT;generalize a.dicts.length=D at *;generalize a.files.length=N at *;have hl':¬ (512:Int)<(text.size:Int):=by omega
 have d1:decide ((512:Int)<(text.size:Int))=false:=dF hl';have d2:decide ((N:Int)=12)=false:=dF (by omega);have d3:((N:Int) == 12)=false:=by simp;omega
 have d4:¬ (N:Int)=12:=by omega
 go_enter Tryz.func13,Tryz.ntmps13
 go_wp2_with fail
 refine (C1.out _ (Fr.start w _ _).b).mono ?_;rintro e w1 ⟨rfl,G1⟩;have F1:=(Fr.start w _ _).next G1;clear G1;obtain ⟨b,a0,a1,r0,r1,z0,z1,hz⟩:=id F1;go_wp2_with fail
 refine (C2.out _).mono ?_;rintro e w2 ⟨rfl,rfl⟩;go_wp2_with fail
 refine (C3.out _).mono ?_;rintro e w3 ⟨rfl,G3⟩;clear b a0 a1 r0 r1 z0 z1 hz;have F3:=F1.next G3;clear G3;obtain ⟨b,a0,a1,r0,r1,z0,z1,hz⟩:=id F3;go_wp2_with fail
 refine (C4.out _ F3.b).mono ?_;rintro e w4 ⟨rfl,G4⟩;clear b a0 a1 r0 r1 z0 z1 hz;have F4:=F3.next G4;clear G4;obtain ⟨b,a0,a1,r0,r1,z0,z1,hz⟩:=id F4;go_wp2_with fail
 refine (C5.out _ F4.b).mono ?_;rintro e w5 ⟨rfl,G5⟩;clear b a0 a1 r0 r1 z0 z1 hz;have F5:=F4.next G5;clear G5;obtain ⟨b,a0,a1,r0,r1,z0,z1,hz⟩:=id F5;have hz5:w.heap.size<w5.heap.size:=by omega
 go_wp2_with fail
 have F6:=F5.next ((bR _ _).alloc (nl _) (.cells #[.string name,.int .i64 dict,.int .i64 (text.size:Int),.int .i64 M,.string K] 46 (0,0)));refine (C6.out _ F6.b).mono ?_;rintro e w6 ⟨v1,v2,rfl,O6,G6⟩;have F7:=F6.next G6;have hlt6:w5.heap.size<w6.heap.size:=by have:=G6.size;simp at this;omega
 have hf:=fun j=>(G6.cell (p:=⟨w5.heap.size,j,none⟩) (by simp)).trans (cN _ _ _ j)
 have f0:w6.cell? ⟨w5.heap.size,0,none⟩=some (.string name):=hf 0;have f1:w6.cell? ⟨w5.heap.size,1,none⟩=some (.int .i64 dict):=hf 1;have f2:w6.cell? ⟨w5.heap.size,2,none⟩=some (.int .i64 (text.size:Int)):=hf 2;have f3:w6.cell? ⟨w5.heap.size,3,none⟩=some (.int .i64 M):=hf 3;have f4:w6.cell? ⟨w5.heap.size,4,none⟩=some (.string K):=hf 4;obtain ⟨o1,o2,o3⟩:=HA.out _ _ _ _ O6;have hlo:w.heap.size+1<(w5.alloc (.cells #[.string name,.int .i64 dict,.int .i64 (text.size:Int),.int .i64 M,.string K] 46 (0,0))).heap.size:=F6.hz;have hl0:_<=w6.heap.size:=G6.size;generalize (w5.alloc (.cells #[.string name,.int .i64 dict,.int .i64 (text.size:Int),.int .i64 M,.string K] 46 (0,0))).heap.size=lo at o1 o2 hlo hl0;clear hf G6 F6 O6 HA b a0 a1 r0 r1 z0 z1 hz C1 C2 C3 C4 C5 C6;obtain ⟨b,a0,a1,r0,r1,z0,z1,hz⟩:=id F7;obtain ⟨p1,q1,rfl,_⟩:=Zk o1;clear F1 F3 F4 F5;obtain ⟨p2,q2,rfl,hq2⟩:=Zk o2;have hz6:w.heap.size<w6.heap.size:=by omega
 go_wp2_with fail
 have hsz1:(w6.alloc (.cells #[.slice p1 D q1,.slice p2 N q2] 25 (0,0))).heap.size=w6.heap.size+1:=by simp
 have hown:=fun x o=>(o2.alloc x).alloc o
 obtain ⟨K1,K2⟩:=box2 w6 #[.slice p1 D q1,.slice p2 N q2] #[.string name,.int .i64 dict,.int .i64 (text.size:Int),.int .i64 M,.string K] 25 46
 have hvb:((w6.alloc (.cells #[.slice p1 D q1,.slice p2 N q2] 25 (0,0))).alloc (.cells #[.string name,.int .i64 dict,.int .i64 (text.size:Int),.int .i64 M,.string K] 46 (0,0))).heap[w6.heap.size+1]?=some (.cells #[.string name,.int .i64 dict,.int .i64 (text.size:Int),.int .i64 M,.string K] 46 (0,0)):=by
  rw [<-hsz1];show (Array.push _ _)[_]?=_;rw [Array.getElem?_push_size]
 have hlt2:∀ j,(Value.slice p2 N q2).ownBlock=some j->lo<=j/\j<w6.heap.size:=fun j hj=>o2.lt j hj
 have hlt1:∀ j,(Value.slice p1 D q1).ownBlock=some j->lo<=j/\j<w6.heap.size:=fun j hj=>o1.lt j hj
 have fzc:∀ o,((w6.alloc (.cells #[.slice p1 D q1,.slice p2 N q2] 25 (0,0))).alloc (.cells #[.string name,.int .i64 dict,.int .i64 (text.size:Int),.int .i64 M,.string K] 46 (0,0))).frozen? ⟨w6.heap.size,o,none⟩=false:=fun o=>by
  rw [World.frozen?_alloc_past _ _ _ (by rw [hsz1];omega)];exact fN _ _ _ _ rfl
 have F8:=(F7.next ((bR _ _).alloc (nl _) (.cells #[.slice p1 D q1,.slice p2 N q2] 25 (0,0)))).next ((bR _ _).alloc (nl _) (.cells #[.string name,.int .i64 dict,.int .i64 (text.size:Int),.int .i64 M,.string K] 46 (0,0)));have o1':=(o1.alloc (.cells #[.slice p1 D q1,.slice p2 N q2] 25 (0,0))).alloc (.cells #[.string name,.int .i64 dict,.int .i64 (text.size:Int),.int .i64 M,.string K] 46 (0,0));refine (CI.out lo _ _ _ (hown _ _) hvb (fun e=>by have:=(hlt2 _ e).2;omega) (by simp;omega)).mono ?_;have hsz2:((w6.alloc (.cells #[.slice p1 D q1,.slice p2 N q2] 25 (0,0))).alloc (.cells #[.string name,.int .i64 dict,.int .i64 (text.size:Int),.int .i64 M,.string K] 46 (0,0))).heap.size=w6.heap.size+2:=by simp
 generalize ((w6.alloc (.cells #[.slice p1 D q1,.slice p2 N q2] 25 (0,0))).alloc (.cells #[.string name,.int .i64 dict,.int .i64 (text.size:Int),.int .i64 M,.string K] 46 (0,0)))=wi at *;rintro e w8 ⟨g,cap,rfl,O8,hg8,hat⟩;have nC:some w6.heap.size ≠ (Value.slice p2 N q2).ownBlock:=fun e=>by have:=(hlt2 _ e.symm).2;omega
 have nR:some (w.heap.size+1) ≠ (Value.slice p2 N q2).ownBlock:=fun e=>by have:=(hlt2 _ e.symm).1;omega
 have nR':some w.heap.size ≠ (Value.slice p2 N q2).ownBlock:=fun e=>by have:=(hlt2 _ e.symm).1;omega
 have s0:w8.cell? ⟨w6.heap.size,0,none⟩=some (.slice p1 D q1):=Ze hg8 (K1 0) nC;have s1:w8.cell? ⟨w6.heap.size,1,none⟩=some (.slice p2 N q2):=Ze hg8 (K1 1) nC;have s3:w8.frozen? ⟨w6.heap.size,1,none⟩=false:=Zr hg8 (by omega) (fzc 1) nC;have t0:w8.cell? ⟨w.heap.size+1,0,none⟩=some (.slice none 0 0):=Ze hg8 F8.r0 nR;have t1:w8.cell? ⟨w.heap.size+1,1,none⟩=some (.slice none 0 0):=Ze hg8 F8.r1 nR;have t2:w8.frozen? ⟨w.heap.size+1,0,none⟩=false:=Zr hg8 (by omega) F8.z0 nR;have t3:w8.frozen? ⟨w.heap.size+1,1,none⟩=false:=Zr hg8 (by omega) F8.z1 nR;have b8:Below w.heap.size w w8:=F8.b.grown hg8 (by omega) (fun j hj=>by have:=(hlt2 j hj).1;omega);have hg8s:w6.heap.size+2<=w8.heap.size:=by have:=hg8.size;omega
 have o1v:w8.ownsRow lo 9 1 (.slice p1 D q1) D (a.dicts.map Value.string):=o1'.kept hg8 (by
  cases hv:(Value.slice p1 D q1).ownBlock with
  | none=>exact .inl rfl
  | some j=>exact .inr (fun e=>o3 j hv e.symm))
 have hgC:g ≠ w6.heap.size:=by
  rcases hat with hat | hat
  ·have:=(hlt2 g hat).2;omega
  ·omega
 have sg:=Zb w8 ⟨w6.heap.size,1,none⟩ (.slice (some ⟨g,0,none⟩) (N+1) cap);have O9:=O8.kept sg (.inr (by simp [Value.ownBlock];exact hgC));have o9:=o1v.kept sg (.inr (fun e=>by have:=(hlt1 _ e).2;simp at this))
 have ne9:∀ j,(Value.slice p1 D q1).ownBlock=some j->(Value.slice (some ⟨g,0,none⟩) (N+1) cap).ownBlock ≠ some j:=fun j hj e=>by
  simp [Value.ownBlock] at e;subst e;rcases hat with hat | hat
  ·exact o3 g hj hat
  ·have:=(hlt1 g hj).2;omega
 have b9:=b8.setCell (p:=⟨w6.heap.size,1,none⟩) (by show _<=w6.heap.size;omega) (.slice (some ⟨g,0,none⟩) (N+1) cap);have nRC:some (w.heap.size+1) ≠ some w6.heap.size:=by simp;omega
 obtain ⟨Bz,Oz1,Oz2,Rz0,Rz1⟩:=Zbb b9 o9 O9 hlo (Ze sg t0 nRC) (Ze sg t1 nRC);have hC1:w6.heap.size ≠ w.heap.size+1:=by omega
 have hC2:w6.heap.size<w8.heap.size:=by omega
 have hC3:w.heap.size+1<w8.heap.size:=by omega
 clear F8 F7 o1' hown CI K1 K2 hvb sg O9 o9 b9 O8 hg8 o1v b8 fzc hat;go_wp2_with fail
 generalize ((w8.setCell ⟨w6.heap.size,1,none⟩ (.slice (some ⟨g,0,none⟩) (N+1) cap)).setCell ⟨w.heap.size+1,0,none⟩ (.slice p1 D q1)).setCell ⟨w.heap.size+1,1,none⟩ (.slice (some ⟨g,0,none⟩) (N+1) cap)=wz at *;exact bodyPost_ret (v:=.tuple #[.agg #[.slice p1 D q1,.slice (some ⟨g,0,none⟩) (N+1) cap],.int .i64 0]) (by simp [results,Tryz.results13,go_sem,Rz0,Rz1]) rfl (hQ.out _ _ _ Oz1 Oz2 ne9 Bz)
theorem ZeC {a:Ar.A} {name text:ByteArray} {dict E:Int} (h:Ar.putE a name text dict=E) (h0:E ≠ 0):Ar.putA a name text dict=Ar.az:=by
 unfold Ar.putA;rw [h,if_neg h0]
theorem Zie (ad af:Option Addr) (cd cf:Nat) (a:Ar.A) (name text:ByteArray) (dict:Int) (w:World) (h:ArV w ad af a) (hs:SaneA a) (hn:name.size<=140737488355328) (ht:text.size<=140737488355328) :
 Calls Tryz.prog 13 #[av ad cd af cf a,.string name,.string text,.int .i64 dict] w fun e w'=>ArSaid w (Ar.putA a name text dict) (Ar.putE a name text dict) e w':=by
 by_cases hc:Ar.chk a=0
 ·cases hm:Ar.isNm name with
  | false =>
   have e:Ar.putE a name text dict=4:=by unfold Ar.putE;rw [if_neg (fun h9=>h9 hc),if_pos hm]
   rw [ZeC e (by decide),e];exact ZuA ad af cd cf a name text dict w h hs hn hc hm
  | true =>
   cases hd:Ar.has a.dicts dict with
   | false =>
    have e:Ar.putE a name text dict=3:=by unfold Ar.putE;rw [if_neg (fun h9=>h9 hc),if_neg (by rw [hm];decide),if_pos hd]
    rw [ZeC e (by decide),e];exact Zqr ad af cd cf a name text dict w h hs hn hc hm hd
   | true =>
    by_cases hl:512<text.size
    ·have e:Ar.putE a name text dict=2:=by unfold Ar.putE;rw [if_neg (fun h9=>h9 hc),if_neg (by rw [hm];decide),if_neg (by rw [hd];decide),if_pos (.inl hl)]
     rw [ZeC e (by decide),e];exact ZpW ad af cd cf a name text dict w h hs hn ht hc hm hd hl
    ·cases hT:Ar.ZK a.files name with
     | true =>
      have e:Ar.putE a name text dict=0:=by
       unfold Ar.putE;rw [if_neg (fun h9=>h9 hc),if_neg (by rw [hm];decide),if_neg (by rw [hd];decide),if_neg];rintro (h1 | h1)
       ·exact hl h1
       ·rw [hT] at h1;cases h1.1
      have e2:Ar.putA a name text dict=⟨a.dicts,Ar.putF a.files (Ar.pk a.dicts name text dict)⟩:=by unfold Ar.putA;rw [if_pos e]
      rw [e,e2];exact Zoz ad af cd cf a name text dict w h hs hn hc hm hd (by omega) hT
     | false =>
      by_cases h12:a.files.length=12
      ·have e:Ar.putE a name text dict=2:=by unfold Ar.putE;rw [if_neg (fun h9=>h9 hc),if_neg (by rw [hm];decide),if_neg (by rw [hd];decide),if_pos (.inr ⟨hT,h12⟩)]
       rw [ZeC e (by decide),e];exact ZoT ad af cd cf a name text dict w h hs hn hc hm hd (by omega) hT h12
      ·have e:Ar.putE a name text dict=0:=by
        unfold Ar.putE;rw [if_neg (fun h9=>h9 hc),if_neg (by rw [hm];decide),if_neg (by rw [hd];decide),if_neg];rintro (h1 | h1)
        ·exact hl h1
        ·exact h12 h1.2
       have e2:Ar.putA a name text dict=⟨a.dicts,Ar.putF a.files (Ar.pk a.dicts name text dict)⟩:=by unfold Ar.putA;rw [if_pos e]
       have m2:=(Ar.Zw.1 (Ar.Zd.1 hc).1).2.1;rw [e,e2];exact ZsS ad af cd cf a name text dict w h hs hn hc hm hd (by omega) hT (by omega)
 ·have e:Ar.putE a name text dict=Ar.chk a:=by unfold Ar.putE;rw [if_pos hc]
  rw [ZeC e hc,e];exact Zsk ad af cd cf a name text dict w h hs hc
theorem ZdQ {P:Program} {ops:Array Oper} {o:Oper} {a:Act} {w:World} {K:Act->World->Prop} {Q:Exit->Act->World->Prop} {E:Prop} (hg:o.guard=none) (s x:Operand) (t tn:TypeId)
 (ho:o.op=.call { callee:=.builtin .append,args:=#[s,x],argTypes:=#[t,tn] }) (vs vx:Value) (hs:a.eval s=vs) (hx:a.eval x=vx)
 {v':Value} {w':World} (hr:(Builtin.append_ #[t,tn] o.type #[vs,vx]).run P w=.ok v' w') (h:K (a.put o.dst v') w'):if Region.wanted o (yielded ops a.tmps)=true then Oper.wp P o a w K Q else E:=by
 rw [if_pos (by simp [Region.wanted,hg])];exact Lib.wp_append_run w s x t tn ho vs vx hs hx v' w' hr h
theorem Zbl {P:Program} (w:World) {ops:Array Oper} {rest:List Oper} {o:Oper} {a:Act} {Q:Exit->Act->World->Prop} (hgd:o.guard=none) (s:Operand) (t:TypeId)
 (ho:o.op=.call { callee:=.builtin .clear,args:=#[s],argTypes:=#[t] }) (vs:Value) (hs:a.eval s=vs)
 {v':Value} {w':World} (hr:(Builtin.clear_ #[t] o.type #[vs]).run P w=.ok v' w') (h:wpList P ops Q rest (a.put o.dst v') w'):wpList P ops Q (o :: rest) a w :=
 wpList_plain hgd fun K hK=>by
  unfold Oper.wp execOp;simp only [ho,resolve,invoke,builtin,Sem.run_bind,Sem.run_pure,Result.andThen_ok,List.map_toArray,List.map_cons,List.map_nil,hs,hr];exact hK _ _ h
def fz5:List Value:=[.string ⟨#[]⟩,.int .i64 0,.int .i64 0,.int .i64 0,.string ⟨#[]⟩]
theorem Zlc (w:World) (ty:TypeId) (g o c:Nat) (cur:Array Value) (t:TypeId) (hg:w.heap[g]?=some (.cells cur t (0,0))) (hfit:o+5<=cur.size) :
 (Builtin.clear_ #[23] ty #[.slice (some ⟨g,o,none⟩) 1 c]).run Tryz.prog w=.ok (.tuple #[]) (w.setRow g (cur.toList.take o++fz5++cur.toList.drop (o+5)).toArray):=by
 obtain ⟨j0,gi,gz0,gz1,gz2⟩:=info_parts (P:=Tryz.prog) (e:=46) (z:=.agg #[.string ⟨#[]⟩,.int .i64 0,.int .i64 0,.int .i64 0,.string ⟨#[]⟩]) (size:=5) (bytes:=56) (by kernel_rfl);have hz:(Builtin.zeroCells (Value.agg #[.string ⟨#[]⟩,.int .i64 0,.int .i64 0,.int .i64 0,.string ⟨#[]⟩]).cells 1).toList=fz5:=by kernel_rfl
 have hst:=run_storeCells_at Tryz.prog g o t fz5 0 cur w hg (by simpa [fz5] using hfit) (one5 _ _ _ _ _);have hl:fz5.length=5:=rfl;simp only [Nat.add_zero,hl] at hst;simp [Builtin.clear_,run_underlying Tryz.underlying23,zeroValue,typeInfo,gi,gz0,hz,hst]
def ZfH (lo:Nat) (fs:List Ar.F) (v2:Value) (w:World) (e:Ending) (w':World):Prop:=∃ g cap,e=.returned (.slice (some ⟨g,0,none⟩) fs.length cap)/\w'.ownsRow lo 46 5 (.slice (some ⟨g,0,none⟩) fs.length cap) fs.length (fcs fs)/\w.grownBy w' v2.ownBlock/\v2.ownBlock=some g
theorem ZqR {l cs:List Value} {m i:Nat} (h1:l.take (m+5)=cs) (h2:m+5<=l.length) (h3:i<=m) :
 let l1:=l.take i++cs.drop (i+5)++l.drop (i+(cs.drop (i+5)).length)
 (l1.take m++fz5++l1.drop (m+5)).length=l.length/\(l1.take m++fz5++l1.drop (m+5)).take m=cs.take i++cs.drop (i+5):=by
 intro l1;have hc:cs.length=m+5:=by rw [<-h1,List.length_take];omega
 have hd:(cs.drop (i+5)).length=m - i:=by rw [List.length_drop,hc];omega
 have e1:l1.length=l.length:=by
  show (l.take i++cs.drop (i+5)++l.drop (i+(cs.drop (i+5)).length)).length=_;simp only [List.length_append,List.length_take,List.length_drop];omega
 have hf:fz5.length=5:=rfl;constructor
 ·simp only [List.length_append,List.length_take,List.length_drop,hf];omega
 ·rw [List.append_assoc,List.take_append_of_le_length (by rw [List.length_take];omega),List.take_take,Nat.min_self];show (l.take i++cs.drop (i+5)++l.drop (i+(cs.drop (i+5)).length)).take m=_;rw [List.take_append_of_le_length (by simp only [List.length_append,List.length_take];omega),List.take_of_length_le (by simp only [List.length_append,List.length_take];omega)]
  congr 1
  rw [<-h1,List.take_take]
  congr 1
  omega
theorem Zlb (lo:Nat) (fs:List Ar.F) (v2:Value) (i:Nat) (w:World) (hown:w.ownsRow lo 46 5 v2 fs.length (fcs fs)) (hn:fs.length<=12) (hi:i<fs.length) :
 Calls Tryz.prog 55 #[v2,.int .i64 (i:Nat),.int .i64 ((i:Int)+1)] w fun e w'=>ZfH lo (fs.take i++fs.drop (i+1)) v2 w e w':=by
 obtain ⟨j0,gi,gz0,gz1,gz2⟩:=info_parts (P:=Tryz.prog) (e:=46) (z:=.agg #[.string ⟨#[]⟩,.int .i64 0,.int .i64 0,.int .i64 0,.string ⟨#[]⟩]) (size:=5) (bytes:=56) (by kernel_rfl);rcases hown.2 with ⟨_,h2⟩ | ⟨g,cap,cur,rfl,h2,hg,h4,h5,h6,htk⟩
 ·omega
 have hcl:(fcs fs).length=fs.length*5:=Zah fs
 obtain ⟨m,hm⟩:∃ m,fs.length=m+1:=⟨fs.length - 1,by omega⟩
 have hdl:((fcs fs).drop (i*5+5)).length=(m - i)*5:=by rw [List.length_drop,hcl];omega
 obtain ⟨cur1,hcur1⟩:∃ cur1:Array Value,cur1=(cur.toList.take (i*5)++(fcs fs).drop (i*5+5)++cur.toList.drop (i*5+((fcs fs).drop (i*5+5)).length)).toArray:=⟨_,rfl⟩
 obtain ⟨cur2,hcur2⟩:∃ cur2:Array Value,cur2=(cur1.toList.take (m*5)++fz5++cur1.toList.drop (m*5+5)).toArray:=⟨_,rfl⟩
 have hl1:cur1.toList=cur.toList.take (i*5)++(fcs fs).drop (i*5+5)++cur.toList.drop (i*5+((fcs fs).drop (i*5+5)).length):=by rw [hcur1]
 have hl2:cur2.toList=cur1.toList.take (m*5)++fz5++cur1.toList.drop (m*5+5):=by rw [hcur2]
 have hcL:cur.toList.length=cap*5:=by simpa using h6
 have h2c:=ZqR (l:=cur.toList) (cs:=fcs fs) (m:=m*5) (i:=i*5) (by rw [<-htk,hm];congr 1;omega) (by rw [hcL];omega) (by omega);simp only at h2c;rw [<-hl1,<-hl2] at h2c
 have hs1:cur1.size=cap*5:=by
  rw [<-Array.length_toList,hl1];simp only [List.length_append,List.length_take,List.length_drop,Array.length_toList,hcl,h6];omega
 have hap:∀ ty sc o,(o=i*5+5\/i=m)->(Builtin.append_ #[23,23] ty #[.slice (some ⟨g,0,none⟩) i cap,.slice (some ⟨g,o,none⟩) (m - i) sc]).run Tryz.prog w.drew=.ok (.slice (some ⟨g,0,none⟩) m cap) (w.drew.setRow g cur1):=fun ty sc o ho=>by
  have:=run_append_room w.drew 23 ty 46 j0 U23 gi g i cap cur hg ⟨g,o,none⟩ (m - i) sc ((fcs fs).drop (i*5+5)) (by rw [gz1,hdl])
   (fun j v hj=>by
    rcases ho with rfl | rfl
    ·rw [Go.WideShapes.add_plain];show w.cell? ⟨g,i*5+5+j,none⟩=some v;rw [ZhR hg,<-Array.getElem?_toList];rw [List.getElem?_drop,<-htk,List.getElem?_take] at hj;split at hj
     ·exact hj
     ·cases hj
    ·rw [List.getElem?_eq_none (by rw [hdl];omega)] at hj;cases hj)
   (fun v hv=>ZeY fs v (List.mem_of_mem_drop hv)) (by omega) (by rw [gz1,hdl];omega)
  rw [gz1,<-hcur1,show i+(m - i)=m by omega] at this;exact this
 have hg1:(w.drew.setRow g cur1).heap[g]?=some (.cells cur1 46 (0,0)):=setRow_heap w.drew g cur cur1 _ _ hg
 have hcr:∀ ty c,(Builtin.clear_ #[23] ty #[.slice (some ⟨g,m*5,none⟩) 1 c]).run Tryz.prog (w.drew.setRow g cur1)=.ok (.tuple #[]) ((w.drew.setRow g cur1).setRow g cur2):=fun ty c=>by
  rw [Zlc _ ty g (m*5) c cur1 _ hg1 (by omega),<-hcur2]
 have hfin:ZfH lo (fs.take i++fs.drop (i+1)) (.slice (some ⟨g,0,none⟩) fs.length cap) w (.returned (.slice (some ⟨g,0,none⟩) m cap)) ((w.drew.setRow g cur1).setRow g cur2):=by
  have hlen:(fs.take i++fs.drop (i+1)).length=m:=by rw [List.length_append,List.length_take,List.length_drop];omega
  refine ⟨g,cap,by rw [hlen],?_,?_,rfl⟩
  ·rw [hlen];refine ⟨by rw [Zah,hlen],.inr ⟨g,cap,cur2,rfl,h2,setRow_heap _ g cur1 cur2 _ _ hg1,by omega,h5,?_,?_⟩⟩
   ·rw [<-h6,<-Array.length_toList,h2c.1,Array.length_toList]
   ·rw [h2c.2,Zz,Zeg,ZdZ,show (i+1)*5=i*5+5 by omega]
  ·have a1:=Zan w.drew g cur1;have a2:=Zan (w.drew.setRow g cur1) g cur2
   have a0:w.grownBy w.drew (some g):=⟨rfl,rfl,rfl,nl _,fun _ _ _=>rfl⟩
   exact (a0.trans a1).trans a2
 have hW:i=m->w.drew.setRow g cur1=w.drew:=fun e=>by
  have h0:(fcs fs).drop (i*5+5)=[]:=List.drop_of_length_le (by rw [hcl];omega)
  have h1:cur1=cur:=by
   rw [hcur1,h0];simp
  rw [h1];exact setRow_self w.drew g cur _ _ hg
 rw [hm] at hfin |-
 generalize (ZfH lo (fs.take i++fs.drop (i+1)) (.slice (some ⟨g,0,none⟩) (m+1) cap) w)=Q at *;rw [hm] at hn hi h4;clear hl1 hl2 hcur1 hcur2 h2c htk hcl hs1 hg hg1 hown h6 hcL hdl hm;have hz2:¬ ((i:Int)=(i:Int)+1):=by omega
 have hb3:(i:Int)<=(m:Int):=by omega
 have hb4:(i:Int)+1<=(m:Int)+1:=by omega
 have hb5:(0:Int)<=(i:Int)+1:=by omega
 have htn:((i:Int)+1).toNat=i+1:=by omega
 have hcm:(cap:Int)<=9223372036854775807:=by unfold maxLen at h5;omega
 have hmc:(m:Int)+1<=(cap:Int):=by omega
 have hmi:(m:Int)<=12:=by omega
 have hcm0:¬ cap=m:=by omega
 have hic:i<=cap:=by omega
 have him:i<=m+1:=by omega
 have hmc':m+1<=cap:=by omega
 have hmc2:m<=cap:=by omega
 have him1:i+1<=m+1:=by omega
 by_cases hci:cap=i+1
 ·obtain rfl:i=m:=by omega
  rw [hW rfl] at hcr hfin;rw [hci] at hfin;clear hap hW;have hii:(i:Int)<=(i:Int)+1:=by omega
  go_enter Tryz.func55,Tryz.ntmps55
  go_wp2_with fail
  go_region
  go_wp2_with (first
   | (at_builtin;refine Zbl _ rfl _ 23 rfl _ rfl (hcr _ _) ?_)
   | fail)
  exact hfin
 ·have hap1:=fun ty sc=>hap ty sc ((i+1)*5) (.inl (by omega))
  clear hap hW;go_enter Tryz.func55,Tryz.ntmps55
  go_wp2_with fail
  go_region_law (refine ZdQ rfl _ _ 23 23 rfl (.slice (some ⟨g,0,none⟩) i cap) (.slice (some ⟨g,(i+1)*5,none⟩) (m - i) (cap - (i+1))) (by simp [Act.eval,Act.put]) (by simp [Act.eval,Act.put]) (hap1 23 (cap - (i+1))) ?_)
  go_wp2_with (first
   | (at_builtin;refine Zbl _ rfl _ 23 rfl _ rfl (hcr _ _) ?_)
   | fail)
  exact hfin
theorem ZqS (ad af:Option Addr) (cd cf:Nat) (a:Ar.A) (name:ByteArray) (w:World) (h:ArV w ad af a) (hs:SaneA a) (hc:Ar.chk a ≠ 0) :
 Calls Tryz.prog 14 #[av ad cd af cf a,.string name] w fun e w'=>ArSaid w Ar.az (Ar.chk a) e w':=by
 have C1:Hid (∀ w',Below w.heap.size w w'->Calls Tryz.prog 18 #[av ad cd af cf a] w' fun e w2=>e=.returned (.int .i64 (Ar.chk a))/\Below w'.heap.size w' w2):=fun w' h9=>Zx ad af cd cf a w' (h.below h9) hs
 have hQ:Hid (∀ w',Below w.heap.size w w'->ArSaid w Ar.az (Ar.chk a) (.returned (.tuple #[.agg #[.slice none 0 0,.slice none 0 0],.int .i64 (Ar.chk a)])) w'):=fun w' h9=>Zy h9
 generalize ArSaid w Ar.az (Ar.chk a)=Q at *;unfold av at C1 |-
 generalize Ar.chk a=E at *;generalize a.dicts.length=D at *;generalize a.files.length=N at *;have e1:(E != 0)=true:=by simpa using hc
 have e2:(E == 0)=false:=by simpa using hc
 clear h hs;go_enter Tryz.func14,Tryz.ntmps14
 go_wp2_with fail
 refine (C1.out _ (Fr.start w _ _).b).mono ?_;rintro e w1 ⟨rfl,G1⟩;have F1:=(Fr.start w _ _).next G1;clear G1;obtain ⟨b,a0,a1,r0,r1,z0,z1,hz⟩:=id F1;go_wp2_with fail
 rw [F1.zero];exact bodyPost_ret (v:=.tuple #[.agg #[.slice none 0 0,.slice none 0 0],.int .i64 E]) (by simp [results,Tryz.results14,go_sem,F1.r0,F1.r1]) rfl (hQ.out _ F1.b)
theorem ZnF (ad af:Option Addr) (cd cf:Nat) (a:Ar.A) (name:ByteArray) (w:World) (h:ArV w ad af a) (hs:SaneA a) (hc:Ar.chk a=0) (hT:Ar.ZK a.files name=false) :
 Calls Tryz.prog 14 #[av ad cd af cf a,.string name] w fun e w'=>ArSaid w Ar.az 5 e w':=by
 have C1:Hid (∀ w',Below w.heap.size w w'->Calls Tryz.prog 18 #[av ad cd af cf a] w' fun e w2=>e=.returned (.int .i64 (Ar.chk a))/\Below w'.heap.size w' w2):=fun w' h9=>Zx ad af cd cf a w' (h.below h9) hs
 have hsr:=Ar.Zbc hc;obtain ⟨m1,m2,m3⟩:=Ar.Zw.1 (Ar.Zd.1 hc).1;have C4:Hid (∀ w',Below w.heap.size w w'->Calls Tryz.prog 51 #[av ad cd af cf a,.string name] w' fun e w2=>e=.returned (.tuple #[.int .i64 (Ar.pos a.files name:Nat),.bool (Ar.ZK a.files name)])/\Below w'.heap.size w' w2):=fun w' h9=>ZbT ad af cd cf a name w' (h.fs.below h9) (by omega) hsr
 have hQ:Hid (∀ w',Below w.heap.size w w'->ArSaid w Ar.az 5 (.returned (.tuple #[.agg #[.slice none 0 0,.slice none 0 0],.int .i64 5])) w'):=fun w' h9=>Zy h9
 generalize ArSaid w Ar.az 5=Q at *;rw [hc] at C1;rw [hT] at C4;have hp:=Ar.ZbL a.files name;generalize Ar.pos a.files name=p at *;unfold av at C1 C4 |-
 clear h hs hc hsr m3 hT;generalize a.dicts.length=D at *;generalize a.files.length=N at *;go_enter Tryz.func14,Tryz.ntmps14
 go_wp2_with fail
 refine (C1.out _ (Fr.start w _ _).b).mono ?_;rintro e w1 ⟨rfl,G1⟩;have F1:=(Fr.start w _ _).next G1;clear G1;obtain ⟨b,a0,a1,r0,r1,z0,z1,hz⟩:=id F1;go_wp2_with fail
 refine (C4.out _ F1.b).mono ?_;rintro e w4 ⟨rfl,G4⟩;clear b a0 a1 r0 r1 z0 z1 hz;have F4:=F1.next G4;clear G4;obtain ⟨b,a0,a1,r0,r1,z0,z1,hz⟩:=id F4;go_wp2_with fail
 rw [F4.zero];exact bodyPost_ret (v:=.tuple #[.agg #[.slice none 0 0,.slice none 0 0],.int .i64 5]) (by simp [results,Tryz.results14,go_sem,F4.r0,F4.r1]) rfl (hQ.out _ F4.b)
theorem ZkM (ad af:Option Addr) (cd cf:Nat) (a:Ar.A) (name:ByteArray) (w:World) (h:ArV w ad af a) (hs:SaneA a) (hc:Ar.chk a=0) (hT:Ar.ZK a.files name=true) :
 Calls Tryz.prog 14 #[av ad cd af cf a,.string name] w fun e w'=>ArSaid w ⟨a.dicts,a.files.take (Ar.pos a.files name)++a.files.drop (Ar.pos a.files name+1)⟩ 0 e w':=by
 have C1:Hid (∀ w',Below w.heap.size w w'->Calls Tryz.prog 18 #[av ad cd af cf a] w' fun e w2=>e=.returned (.int .i64 (Ar.chk a))/\Below w'.heap.size w' w2):=fun w' h9=>Zx ad af cd cf a w' (h.below h9) hs
 have hsr:=Ar.Zbc hc;obtain ⟨m1,m2,m3⟩:=Ar.Zw.1 (Ar.Zd.1 hc).1;have C4:Hid (∀ w',Below w.heap.size w w'->Calls Tryz.prog 51 #[av ad cd af cf a,.string name] w' fun e w2=>e=.returned (.tuple #[.int .i64 (Ar.pos a.files name:Nat),.bool (Ar.ZK a.files name)])/\Below w'.heap.size w' w2):=fun w' h9=>ZbT ad af cd cf a name w' (h.fs.below h9) (by omega) hsr
 have C6:Hid (∀ w',Below w.heap.size w w'->Calls Tryz.prog 53 #[av ad cd af cf a] w' fun e w2=>∃ v1 v2,e=.returned (.agg #[v1,v2])/\ArOwn w'.heap.size w2 v1 v2 a/\Below w'.heap.size w' w2):=fun w' h9=>Zbk ad af cd cf a w' (h.below h9) hs m1 m2
 rw [hc] at C1;rw [hT] at C4;have hp:=(Ar.ZY hT).1
 obtain ⟨n,hn⟩:∃ n,a.files.length=n+1:=⟨a.files.length - 1,by omega⟩
 have hpl:(a.files.take (Ar.pos a.files name)++a.files.drop (Ar.pos a.files name+1)).length=n:=by
  simp only [List.length_append,List.length_take,List.length_drop];omega
 have CI:Hid (∀ lo w' v2,w'.ownsRow lo 46 5 v2 (n+1) (fcs a.files) →
  Calls Tryz.prog 55 #[v2,.int .i64 (Ar.pos a.files name:Nat),.int .i64 ((Ar.pos a.files name:Int)+1)] w' fun e w2=>∃ g cap,e=.returned (.slice (some ⟨g,0,none⟩) n cap)/\w2.ownsRow lo 46 5 (.slice (some ⟨g,0,none⟩) n cap) n (fcs (a.files.take (Ar.pos a.files name)++a.files.drop (Ar.pos a.files name+1)))/\w'.grownBy w2 v2.ownBlock/\v2.ownBlock=some g):=fun lo w' v2 h1=>by
  have:=Zlb lo a.files v2 (Ar.pos a.files name) w' (by rw [hn];exact h1) m2 hp;unfold ZfH at this;rw [hpl] at this;exact this
 have hQ:Hid (∀ v1 v2 w',w'.ownsRow w.heap.size 9 1 v1 a.dicts.length (a.dicts.map Value.string)->w'.ownsRow w.heap.size 46 5 v2 n (fcs (a.files.take (Ar.pos a.files name)++a.files.drop (Ar.pos a.files name+1)))->(∀ j,v1.ownBlock=some j->v2.ownBlock ≠ some j)->Below w.heap.size w w'->ArSaid w ⟨a.dicts,a.files.take (Ar.pos a.files name)++a.files.drop (Ar.pos a.files name+1)⟩ 0 (.returned (.tuple #[.agg #[v1,v2],.int .i64 0])) w'):=fun v1 v2 w' h1 h2 h3 h4=>⟨v1,v2,rfl,⟨h1,by show w'.ownsRow _ _ _ _ (a.files.take (Ar.pos a.files name)++a.files.drop (Ar.pos a.files name+1)).length _;rw [hpl];exact h2,h3⟩,h4⟩
 generalize ArSaid w ⟨a.dicts,a.files.take (Ar.pos a.files name)++a.files.drop (Ar.pos a.files name+1)⟩ 0=Q at *;generalize fcs (a.files.take (Ar.pos a.files name)++a.files.drop (Ar.pos a.files name+1))=FC at *
 have HA:Hid (∀ lo w' v1 v2,ArOwn lo w' v1 v2 a->w'.ownsRow lo 9 1 v1 a.dicts.length (a.dicts.map Value.string)/\w'.ownsRow lo 46 5 v2 a.files.length (fcs a.files)/\(∀ j,v1.ownBlock=some j->v2.ownBlock ≠ some j)):=fun lo w' v1 v2 h9=>⟨h9.o1,h9.o2,h9.ne⟩
 clear hpl;generalize fcs a.files=FA at *;generalize Ar.pos a.files name=p at *;unfold av at C1 C4 C6 |-
 clear h hs hc hsr m3 hT;rw [hn] at C1 C4 C6 HA hp m2 |-
 clear hn;generalize a.dicts.length=D at *;have hpi:(p:Int)<=12:=by omega
 go_enter Tryz.func14,Tryz.ntmps14
 go_wp2_with fail
 refine (C1.out _ (Fr.start w _ _).b).mono ?_;rintro e w1 ⟨rfl,G1⟩;have F1:=(Fr.start w _ _).next G1;clear G1;obtain ⟨b,a0,a1,r0,r1,z0,z1,hz⟩:=id F1;go_wp2_with fail
 refine (C4.out _ F1.b).mono ?_;rintro e w4 ⟨rfl,G4⟩;clear b a0 a1 r0 r1 z0 z1 hz;have F4:=F1.next G4;clear G4;obtain ⟨b,a0,a1,r0,r1,z0,z1,hz⟩:=id F4;go_wp2_with fail
 refine (C6.out _ F4.b).mono ?_;rintro e w6 ⟨v1,v2,rfl,O6,G6⟩;have F7:=F4.next G6;obtain ⟨o1,o2,o3⟩:=HA.out _ _ _ _ O6;have hlo:w.heap.size+1<w4.heap.size:=F4.hz;have hl0:w4.heap.size<=w6.heap.size:=G6.size;generalize w4.heap.size=lo at o1 o2 hlo hl0;clear G6 O6 HA b a0 a1 r0 r1 z0 z1 hz C1 C4 C6;obtain ⟨b,a0,a1,r0,r1,z0,z1,hz⟩:=id F7;obtain ⟨p1,q1,rfl,_⟩:=Zk o1;clear F1 F4;obtain ⟨p2,q2,rfl,hq2⟩:=Zk o2;have hz6:w.heap.size<w6.heap.size:=by omega
 go_wp2_with fail
 have hown:=o2.alloc (.cells #[.slice p1 D q1,.slice p2 (n+1) q2] 25 (0,0));have K1:=fun i=>cN w6 #[.slice p1 D q1,.slice p2 (n+1) q2] 25 i
 have hlt2:∀ j,(Value.slice p2 (n+1) q2).ownBlock=some j->lo<=j/\j<w6.heap.size:=fun j hj=>o2.lt j hj
 have hlt1:∀ j,(Value.slice p1 D q1).ownBlock=some j->lo<=j/\j<w6.heap.size:=fun j hj=>o1.lt j hj
 have fzc:∀ o,(w6.alloc (.cells #[.slice p1 D q1,.slice p2 (n+1) q2] 25 (0,0))).frozen? ⟨w6.heap.size,o,none⟩=false:=fun o=>fN _ _ _ _ rfl
 have F8:=F7.next ((bR _ _).alloc (nl _) (.cells #[.slice p1 D q1,.slice p2 (n+1) q2] 25 (0,0)));have o1':=o1.alloc (.cells #[.slice p1 D q1,.slice p2 (n+1) q2] 25 (0,0));refine (CI.out lo _ _ hown).mono ?_;have hsz2:(w6.alloc (.cells #[.slice p1 D q1,.slice p2 (n+1) q2] 25 (0,0))).heap.size=w6.heap.size+1:=by simp
 generalize (w6.alloc (.cells #[.slice p1 D q1,.slice p2 (n+1) q2] 25 (0,0)))=wi at *;rintro e w8 ⟨g,cap,rfl,O8,hg8,hat⟩;have nC:some w6.heap.size ≠ (Value.slice p2 (n+1) q2).ownBlock:=fun e=>by have:=(hlt2 _ e.symm).2;omega
 have nR:some (w.heap.size+1) ≠ (Value.slice p2 (n+1) q2).ownBlock:=fun e=>by have:=(hlt2 _ e.symm).1;omega
 have s0:w8.cell? ⟨w6.heap.size,0,none⟩=some (.slice p1 D q1):=Ze hg8 (K1 0) nC;have s1:w8.cell? ⟨w6.heap.size,1,none⟩=some (.slice p2 (n+1) q2):=Ze hg8 (K1 1) nC;have s3:w8.frozen? ⟨w6.heap.size,1,none⟩=false:=Zr hg8 (by omega) (fzc 1) nC;have t0:w8.cell? ⟨w.heap.size+1,0,none⟩=some (.slice none 0 0):=Ze hg8 F8.r0 nR;have t1:w8.cell? ⟨w.heap.size+1,1,none⟩=some (.slice none 0 0):=Ze hg8 F8.r1 nR;have t2:w8.frozen? ⟨w.heap.size+1,0,none⟩=false:=Zr hg8 (by omega) F8.z0 nR;have t3:w8.frozen? ⟨w.heap.size+1,1,none⟩=false:=Zr hg8 (by omega) F8.z1 nR;have b8:Below w.heap.size w w8:=F8.b.grown hg8 (by omega) (fun j hj=>by have:=(hlt2 j hj).1;omega);have hg8s:w6.heap.size+1<=w8.heap.size:=by have:=hg8.size;omega
 have o1v:w8.ownsRow lo 9 1 (.slice p1 D q1) D (a.dicts.map Value.string):=o1'.kept hg8 (by
  cases hv:(Value.slice p1 D q1).ownBlock with
  | none=>exact .inl rfl
  | some j=>exact .inr (fun e=>o3 j hv e.symm))
 have hgC:g ≠ w6.heap.size:=by have:=(hlt2 g hat).2;omega
 have sg:=Zb w8 ⟨w6.heap.size,1,none⟩ (.slice (some ⟨g,0,none⟩) n cap);have O9:=O8.kept sg (.inr (by simp [Value.ownBlock];exact hgC));have o9:=o1v.kept sg (.inr (fun e=>by have:=(hlt1 _ e).2;simp at this))
 have ne9:∀ j,(Value.slice p1 D q1).ownBlock=some j->(Value.slice (some ⟨g,0,none⟩) n cap).ownBlock ≠ some j:=fun j hj e=>by
  simp [Value.ownBlock] at e;subst e;exact o3 g hj hat
 have b9:=b8.setCell (p:=⟨w6.heap.size,1,none⟩) (by show _<=w6.heap.size;omega) (.slice (some ⟨g,0,none⟩) n cap);have nRC:some (w.heap.size+1) ≠ some w6.heap.size:=by simp;omega
 obtain ⟨Bz,Oz1,Oz2,Rz0,Rz1⟩:=Zbb b9 o9 O9 hlo (Ze sg t0 nRC) (Ze sg t1 nRC);have hC1:w6.heap.size ≠ w.heap.size+1:=by omega
 have hC2:w6.heap.size<w8.heap.size:=by omega
 have hC3:w.heap.size+1<w8.heap.size:=by omega
 clear F8 F7 o1' hown CI K1 sg O9 o9 b9 O8 hg8 o1v b8 fzc hat;go_wp2_with fail
 generalize ((w8.setCell ⟨w6.heap.size,1,none⟩ (.slice (some ⟨g,0,none⟩) n cap)).setCell ⟨w.heap.size+1,0,none⟩ (.slice p1 D q1)).setCell ⟨w.heap.size+1,1,none⟩ (.slice (some ⟨g,0,none⟩) n cap)=wz at *;exact bodyPost_ret (v:=.tuple #[.agg #[.slice p1 D q1,.slice (some ⟨g,0,none⟩) n cap],.int .i64 0]) (by simp [results,Tryz.results14,go_sem,Rz0,Rz1]) rfl (hQ.out _ _ _ Oz1 Oz2 ne9 Bz)
theorem ZhE (ad af:Option Addr) (cd cf:Nat) (a:Ar.A) (name:ByteArray) (w:World) (h:ArV w ad af a) (hs:SaneA a) :
 Calls Tryz.prog 14 #[av ad cd af cf a,.string name] w fun e w'=>ArSaid w (Ar.ZbB a name) (Ar.getE a name) e w':=by
 by_cases hc:Ar.chk a=0
 ·cases hT:Ar.ZK a.files name with
  | false =>
   have e:Ar.getE a name=5:=by unfold Ar.getE;rw [if_neg (fun h9=>h9 hc),if_neg (by rw [hT];decide)]
   have e2:Ar.ZbB a name=Ar.az:=by unfold Ar.ZbB;rw [e,if_neg (by decide)]
   rw [e2,e];exact ZnF ad af cd cf a name w h hs hc hT
  | true =>
   have e:Ar.getE a name=0:=by unfold Ar.getE;rw [if_neg (fun h9=>h9 hc),if_pos hT]
   have e2:Ar.ZbB a name=⟨a.dicts,a.files.take (Ar.pos a.files name)++a.files.drop (Ar.pos a.files name+1)⟩:=by unfold Ar.ZbB;rw [if_pos e]
   rw [e,e2];exact ZkM ad af cd cf a name w h hs hc hT
 ·have e:Ar.getE a name=Ar.chk a:=by unfold Ar.getE;rw [if_pos hc]
  have e2:Ar.ZbB a name=Ar.az:=by unfold Ar.ZbB;rw [e,if_neg hc]
  rw [e2,e];exact ZqS ad af cd cf a name w h hs hc
namespace Ar
theorem Zju {a:A} {n:Int}:used a n=true ↔ ∃ k,k<a.files.length/\(fa a.files k).dict=n:=by
 unfold used;rw [List.any_eq_true];constructor
 ·rintro ⟨f,hf,hd⟩;obtain ⟨k,hk,rfl⟩:=List.getElem_of_mem hf;exact ⟨k,hk,by simpa [fa,hk] using hd⟩
 ·rintro ⟨k,hk,hd⟩;exact ⟨a.files[k],gM hk,by simpa [fa,hk] using hd⟩
theorem Zts {a:A} {n:Int} (h:∀ k,k<a.files.length->(fa a.files k).dict ≠ n):used a n=false:=by
 cases hu:used a n with
 | false=>rfl
 | true=>obtain ⟨k,h1,h2⟩:=Zju.1 hu;exact absurd h2 (h k h1)
end Ar
theorem ZgJ (f:Ar.F) (c i:Nat) (w:World) (hc:w.cell? ⟨c,0,none⟩=some (.int .i64 i)) (hi:i<=4) :
 Calls Tryz.prog 67 #[fv f,.pointer (some ⟨c,0,none⟩)] w fun e w'=>e=.returned (.bool (decide (f.dict=((i+1:Nat):Int))))/\Below w.heap.size w w':=by
 have hlt:c<w.heap.size:=cL w _ hc;unfold fv;have hb:=fun o=>(bR w.heap.size w).alloc (nl _) o
 have hii:(i:Int)<=4:=by omega
 rw [show ((i+1:Nat):Int)=(i:Int)+1 by omega];generalize f.name=f0 at *;generalize f.dict=f1 at *;generalize f.size=f2 at *;generalize f.sum=f3 at *;generalize f.blk=f4 at *
 obtain ⟨r,hr⟩:∃ r,decide (f1=(i:Int)+1)=r:=⟨_,rfl⟩
 rw [hr];have hr2:(f1 == (i:Int)+1)=r:=by rw [<-hr];rfl
 go_enter Tryz.func67,Tryz.ntmps67
 go_wp2_with fail
 go_ret
 exact ⟨rfl,hb _⟩
theorem Zgz (af:Option Addr) (cf:Nat) (a:Ar.A) (c i:Nat) (w:World) (h:FlSl w af a.files) (hn:a.files.length<=12) (hc:w.cell? ⟨c,0,none⟩=some (.int .i64 i)) (hi:i<=4) :
 Calls Tryz.prog 108 #[.slice af a.files.length cf,.func (.func 67) #[] #[.pointer (some ⟨c,0,none⟩)]] w fun e w'=>∃ r:Int,e=.returned (.int .i64 r)/\decide (0<=r)=Ar.used a ((i+1:Nat):Int)/\Below w.heap.size w w':=by
 have hlt:c<w.heap.size:=cL w _ hc;have HFl:Hid (∀ w',Below w.heap.size w w'->∀ k,k<a.files.length->∃ b off,af=some ⟨b,off,none⟩/\b<w'.heap.size/\FlC w' b (off+k*5) (Ar.fa a.files k)):=fun w' h9 k hk=>(h.below h9).at hk
 have HC:Hid (∀ w',Below w.heap.size w w'->∀ k,Calls Tryz.prog 67 #[fv (Ar.fa a.files k),.pointer (some ⟨c,0,none⟩)] w' fun e w2=>e=.returned (.bool (decide ((Ar.fa a.files k).dict=((i+1:Nat):Int))))/\Below w'.heap.size w' w2):=fun w' h9 k=>ZgJ _ c i w' ((h9.cell (p:=⟨c,0,none⟩) hlt).trans hc) hi
 have HY:Hid (∀ k,k<a.files.length->(Ar.fa a.files k).dict=((i+1:Nat):Int)->Ar.used a ((i+1:Nat):Int)=true):=fun k h1 h2=>Ar.Zju.2 ⟨k,h1,h2⟩
 have HN:Hid ((∀ k,k<a.files.length->(Ar.fa a.files k).dict ≠ ((i+1:Nat):Int))->Ar.used a ((i+1:Nat):Int)=false):=fun h9=>Ar.Zts h9
 unfold fv at HC;generalize Ar.used a ((i+1:Nat):Int)=U at *;generalize ((i+1:Nat):Int)=n at *;clear h hc;generalize a.files.length=N at *;have hNi:(N:Int)<=12:=by omega
 go_enter Tryz.func108,Tryz.ntmps108
 go_wp2_with fail
 go_loopw [8] (fun i wr=>∃ k:Nat,k<=N/\i=.int .i64 k/\Hid (∀ j,j<k->(Ar.fa a.files j).dict ≠ n)/\Below w.heap.size w wr) (fun i _=>N - (intOf i).toNat)
 case atStart=>exact ⟨0,by omega,rfl,fun j hj=>by omega,bR _ _⟩
 case round =>
  obtain ⟨k,hk2,rfl,HK,B1⟩:=hrel;by_cases hlt:k<N
  ·have d1:decide ((k:Int)<(N:Int))=true:=by simp;omega
   have d1':decide (k<N)=true:=by simp;omega
   have hki:(k:Int)<(N:Int):=by omega
   obtain ⟨b,off,rfl,hbl,hcell⟩:=HFl.out wr B1 k hlt;obtain ⟨c0,c1,c2,c3,c4⟩:=hcell;have C:=HC.out wr B1 k;by_cases hd:(Ar.fa a.files k).dict=n
   ·have hU:=HY.out k hlt hd;rw [decide_eq_true hd] at C;clear hd HY HN HK;generalize (Ar.fa a.files k).name=f0 at *;generalize (Ar.fa a.files k).dict=f1 at *;generalize (Ar.fa a.files k).size=f2 at *;generalize (Ar.fa a.files k).sum=f3 at *;generalize (Ar.fa a.files k).blk=f4 at *;have HU:Hid (U=true):=hU;clear hU;go_wp2_with fail
    refine C.mono ?_;rintro e w2 ⟨rfl,G⟩;go_wp2_with fail
    go_ret
    exact ⟨_,rfl,by rw [HU.out];exact zdT (by omega),bch B1 G (nl _)⟩
   ·have HK2:Hid (∀ j,j<k+1->(Ar.fa a.files j).dict ≠ n):=fun j hj=>by
     by_cases e:j=k
     ·subst e;exact hd
     ·exact HK.out j (by omega)
    rw [decide_eq_false hd] at C;clear hd HY HN HK;generalize hf0:(Ar.fa a.files k).name=f0 at *;generalize hf1:(Ar.fa a.files k).dict=f1 at C c1;generalize (Ar.fa a.files k).size=f2 at *;generalize (Ar.fa a.files k).sum=f3 at *;generalize (Ar.fa a.files k).blk=f4 at *;clear hf0 hf1;go_wp2_with fail
    refine C.mono ?_;rintro e w2 ⟨rfl,G⟩;have B2:=bch B1 G (nl _);go_wp2_with fail
    go_roundw
    case rel=>exact ⟨k+1,by omega,by go_num,HK2,B2⟩
    case measure=>simp [intOf];omega
  ·obtain rfl:k=N:=by omega
   have d1:decide ((k:Int)<(k:Int))=false:=by simp
   have HU:Hid (U=false):=HN.out HK.out;clear HN HK HY;go_wp2_with fail
   go_ret
   exact ⟨_,rfl,by rw [HU.out];rfl,B1⟩
theorem ZiY (af:Option Addr) (cf:Nat) (a:Ar.A) (c i:Nat) (w:World) (h:FlSl w af a.files) (hn:a.files.length<=12) (hc:w.cell? ⟨c,0,none⟩=some (.int .i64 i)) (hi:i<=4) :
 Calls Tryz.prog 68 #[.slice af a.files.length cf,.func (.func 67) #[] #[.pointer (some ⟨c,0,none⟩)]] w fun e w'=>e=.returned (.bool (Ar.used a ((i+1:Nat):Int)))/\Below w.heap.size w w':=by
 have c1:=Zgz af cf a c i w h hn hc hi;generalize Ar.used a ((i+1:Nat):Int)=U at *;generalize a.files.length=N at *;clear h hc;go_enter Tryz.func68,Tryz.ntmps68
 go_wp2_with fail
 refine c1.mono ?_;rintro e w1 ⟨r,rfl,hr,G⟩;go_wp2_with fail
 go_ret
 exact ⟨by rw [<-hr];rfl,G⟩
end Go.Proofs.YtbjbjbpgmojcbabGreat
