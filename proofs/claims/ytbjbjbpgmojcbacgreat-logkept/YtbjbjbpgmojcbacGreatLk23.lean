/- A part of the proof: what it leans on. -/
import Derived.Laws.NewBlocks
import Derived.Test.YtbjbjbpgmojcbacGreatLk22
set_option maxRecDepth 8000
set_option maxHeartbeats 4000000
namespace Go.Proofs.YtbjbjbpgmojcbacGreat
open Go.RowKit
def ZaW (lo:Nat) (fs:List Ar.F) (v2:Value) (w:World) (e:Ending) (w':World):Prop:=∃ g cap,e=.returned (.slice (some ⟨g,0,none⟩) fs.length cap)/\w'.ownsRow lo 47 5 (.slice (some ⟨g,0,none⟩) fs.length cap) fs.length (fcs fs)/\w.grownBy w' v2.ownBlock/\(v2.ownBlock=some g\/w.heap.size<=g)
theorem Zcv:(Tryz.prog.info? 47).map (·.size)=some 5:=by kernel_rfl
theorem Zrx {w:World} {vb:Nat} {cs:List Value} {t:TypeId} (h:w.heap[vb]?=some (.cells cs.toArray t (0,0))):∀ j u,cs[j]?=some u->w.cell? ((⟨vb,0,none⟩:Addr).add j)=some u:=by
 intro j u hj;rw [Zax];simp only [World.cell?,h];simpa using hj
theorem Zkk (lo:Nat) (fs:List Ar.F) (f:Ar.F) (v2:Value) (vb:Nat) (t:TypeId) (w:World) (hown:w.ownsRow lo 47 5 v2 fs.length (fcs fs)) (hn:fs.length<=12) (hvb:w.heap[vb]?=some (.cells (fc f).toArray t (0,0))) (hlo:lo<=w.heap.size) :
 Calls Tryz.prog 30 #[v2,.int .i64 (fs.length:Nat),.slice (some ⟨vb,0,none⟩) 1 1] w fun e w'=>ZaW lo (fs++[f]) v2 w e w':=by
 obtain ⟨j0,gi,gz0,gz1,gz2⟩:=info_parts (P:=Tryz.prog) (e:=47) (z:=.agg #[.string ⟨#[]⟩,.int .i64 0,.int .i64 0,.int .i64 0,.string ⟨#[]⟩]) (size:=5) (bytes:=56) (by kernel_rfl);have hnews:=Zrx hvb
 have HE:Hid (∀ g cap w',w'.ownsRow lo 47 5 (.slice (some ⟨g,0,none⟩) (fs.length+1) cap) (fs.length+1) (fcs fs++fc f)->w.grownBy w' v2.ownBlock->(v2.ownBlock=some g\/g=w.heap.size)->ZaW lo (fs++[f]) v2 w (.returned (.slice (some ⟨g,0,none⟩) (fs.length+1) cap)) w'):=fun g cap w' h1 h2 h3=>by
  refine ⟨g,cap,by rw [List.length_append];rfl,?_,h2,h3.imp id (fun e=>by omega)⟩;rw [List.length_append,Zy];exact h1
 clear hvb;generalize hN:fs.length=N at *;clear hN;rcases hown.2 with ⟨rfl,rfl⟩ | ⟨g,cap,cur,rfl,h2,h3,h4,h5,h6,h7⟩
 ·go_enter Tryz.func30,Tryz.ntmps30
  go_wp2_with (first
   | (at_builtin;refine zwL _ rfl _ _ 31 rfl lo 47 j0 (.agg #[.string ⟨#[]⟩,.int .i64 0,.int .i64 0,.int .i64 0,.string ⟨#[]⟩]) 5 56 U31 gi gz0 gz1 gz2 rfl (by decide) _ _ _ rfl hown ⟨vb,0,none⟩ 1 1 (fc f) rfl rfl hnews (one5 _ _ _ _ _) (by decide) (by unfold maxLen;omega) (by omega) hlo _ rfl ?_;intro g cp w7 hown7 hgrow7 hat7 hlt7;have hfin:=HE.out g cp w7 hown7 hgrow7 hat7;clear hgrow7 hown7 hat7 hlt7)
   | fail)
  go_ret
  exact hfin
 ·have hNi:(N:Int)<=12:=by omega
  have hNc:(N:Int)<=(cap:Int):=by omega
  by_cases hce:cap=N
  ·subst hce;go_enter Tryz.func30,Tryz.ntmps30
   go_wp2_with (first
    | (at_builtin;refine zwL _ rfl _ _ 31 rfl lo 47 j0 (.agg #[.string ⟨#[]⟩,.int .i64 0,.int .i64 0,.int .i64 0,.string ⟨#[]⟩]) 5 56 U31 gi gz0 gz1 gz2 rfl (by decide) _ _ _ rfl hown ⟨vb,0,none⟩ 1 1 (fc f) rfl rfl hnews (one5 _ _ _ _ _) (by decide) (by unfold maxLen;omega) (by omega) hlo _ rfl ?_;intro g cp w7 hown7 hgrow7 hat7 hlt7;have hfin:=HE.out g cp w7 hown7 hgrow7 hat7;clear hgrow7 hown7 hat7 hlt7)
    | fail)
   go_ret
   exact hfin
  ·have hce':¬ (cap:Int)=(N:Int):=by omega
   go_enter Tryz.func30,Tryz.ntmps30
   go_wp2_with (first
    | (at_builtin;refine zwL _ rfl _ _ 31 rfl lo 47 j0 (.agg #[.string ⟨#[]⟩,.int .i64 0,.int .i64 0,.int .i64 0,.string ⟨#[]⟩]) 5 56 U31 gi gz0 gz1 gz2 rfl (by decide) _ _ _ rfl hown ⟨vb,0,none⟩ 1 1 (fc f) rfl rfl hnews (one5 _ _ _ _ _) (by decide) (by unfold maxLen;omega) (by omega) hlo _ rfl ?_;intro g cp w7 hown7 hgrow7 hat7 hlt7;have hfin:=HE.out g cp w7 hown7 hgrow7 hat7;clear hgrow7 hown7 hat7 hlt7)
    | fail)
   go_ret
   exact hfin
theorem Zqn {w:World} {g:Nat} {cur:Array Value} {t:TypeId} (h:w.heap[g]?=some (.cells cur t (0,0))):w.shape? g=some (t,cur.size):=by simp [World.shape?,h]
theorem ZdR {w:World} {g:Nat} {cur:Array Value} {t:TypeId} (h:w.heap[g]?=some (.cells cur t (0,0))) (o:Nat):w.frozen? ⟨g,o,none⟩=false:=by simp [World.frozen?,h]
theorem ZgA {w:World} {g:Nat} {cur:Array Value} {t:TypeId} (h:w.heap[g]?=some (.cells cur t (0,0))) (o:Nat):w.cell? ⟨g,o,none⟩=cur[o]?:=by simp [World.cell?,h]
theorem Zak (w:World) (g:Nat) (a:Array Value):w.grownBy (w.setRow g a) (some g):=by
 refine ⟨rfl,rfl,rfl,by simp,fun k hk hne=>?_⟩;exact setRow_other w g k a (fun e=>hne (by rw [e]))
theorem ZgL (lo:Nat) (fs:List Ar.F) (f:Ar.F) (g cap i:Nat) (cur:Array Value) (vb:Nat) (t:TypeId) (w:World) (hg:w.heap[g]?=some (.cells cur 47 (0,0))) (hlo:lo<=g) (hcap:cap<=maxLen) (hcur:cur.size=cap*5) (htk:cur.toList.take (fs.length*5)=fcs fs)
 (hn:fs.length<=12) (hi:i<fs.length) (hroom:fs.length+1<=cap) (hvb:w.heap[vb]?=some (.cells (fc f).toArray t (0,0))) (hne:vb ≠ g) :
 Calls Tryz.prog 30 #[.slice (some ⟨g,0,none⟩) fs.length cap,.int .i64 (i:Nat),.slice (some ⟨vb,0,none⟩) 1 1] w fun e w'=>ZaW lo (fs.take i++f :: fs.drop i) (.slice (some ⟨g,0,none⟩) fs.length cap) w e w':=by
 have hfl:(fc f).length=5:=rfl;have hcl:(fcs fs).length=fs.length*5:=Zag fs
 have hov:∀ lb cb o,(callFunc 59 #[.slice (some ⟨vb,0,none⟩) 1 1,.slice (some ⟨g,o,none⟩) lb cb]).run Tryz.prog w=.ok (.value (.bool false)) w:=fun lb cb o=>by
  rw [run_callFunc_extern Tryz.func59 (by kernel_rfl) (by kernel_rfl) (by kernel_rfl) (e:=Extern.SlicesOverlaps.overlaps #[31,31] #[4]) (by kernel_rfl),
   Lib.run_overlaps_apart w 31 4 47 U31 5 Tryz.sizeOf47 ⟨vb,0,none⟩ ⟨g,o,none⟩ 1 1 lb cb hne t 47 5 cur.size (Zqn hvb) (Zqn hg) (by omega) (ZdR hvb 0) (ZdR hvb 5)]
  rfl
 obtain ⟨cur1,hcur1⟩:∃ cur1:Array Value,cur1=(cur.toList.take ((i*5+5))++(fcs fs).drop (i*5)++cur.toList.drop ((i*5+5)+((fcs fs).drop (i*5)).length)).toArray:=⟨_,rfl⟩
 obtain ⟨cur2,hcur2⟩:∃ cur2:Array Value,cur2=(cur1.toList.take (i*5)++fc f++cur1.toList.drop (i*5+(fc f).length)).toArray:=⟨_,rfl⟩
 have hsz5:(fs.length+1)*5<=cur.size:=by rw [hcur];omega
 have h2c:=Zkl (l:=cur.toList) (cs:=fcs fs) (nw:=fc f) (m:=fs.length*5) (i:=i*5) htk (by simp;omega) (by omega) hfl;simp only at h2c;have hl1:cur1.toList=cur.toList.take ((i*5+5))++(fcs fs).drop (i*5)++cur.toList.drop ((i*5+5)+((fcs fs).drop (i*5)).length):=by rw [hcur1]
 rw [<-hl1] at h2c;have hl2:cur2.toList=cur1.toList.take (i*5)++fc f++cur1.toList.drop (i*5+(fc f).length):=by rw [hcur2]
 rw [<-hl2] at h2c
 have hs1:cur1.size=cur.size:=by
  rw [<-Array.length_toList,hl1];simp only [List.length_append,List.length_take,List.length_drop,hcl,Array.length_toList];omega
 have hcp1:∀ ty dc sc,(Builtin.copy_ #[31,31] ty #[.slice (some ⟨g,(i+1)*5,none⟩) (fs.length - i) dc,.slice (some ⟨g,i*5,none⟩) (fs.length+1 - i) sc]).run Tryz.prog w.drew=.ok (goInt ((fs.length - i:Nat):Int)) (w.drew.setRow g cur1):=fun ty dc sc=>by
  have hm:Nat.min (fs.length+1 - i) (fs.length - i)=fs.length - i:=by simp only [Nat.min_def];split <;> omega
  have:=ZaK w.drew 31 31 ty 47 g ((i*5+5)) (fs.length - i) dc ⟨g,i*5,none⟩ (fs.length+1 - i) sc cur 47 ((fcs fs).drop (i*5)) U31 Zcv hg (by rw [hm,List.length_drop,hcl];omega)
   (fun j v hj=>by
    rw [Go.WideShapes.add_plain];show w.cell? ⟨g,i*5+j,none⟩=some v;rw [ZgA hg,<-Array.getElem?_toList];rw [List.getElem?_drop,<-htk,List.getElem?_take] at hj;split at hj
    ·exact hj
    ·cases hj)
   (by rw [List.length_drop,hcl];omega) (fun v hv=>ZeF fs v (List.mem_of_mem_drop hv))
  rw [hm,<-hcur1] at this;rw [show (i+1)*5=i*5+5 by omega];exact this
 have hg1:(w.drew.setRow g cur1).heap[g]?=some (.cells cur1 47 (0,0)):=setRow_heap w.drew g cur cur1 _ _ hg;have hv1:(w.drew.setRow g cur1).heap[vb]?=some (.cells (fc f).toArray t (0,0)):=(setRow_other w.drew g vb cur1 hne).trans hvb
 have hcp2:∀ ty dc,(Builtin.copy_ #[31,31] ty #[.slice (some ⟨g,i*5,none⟩) (fs.length+1 - i) dc,.slice (some ⟨vb,0,none⟩) 1 1]).run Tryz.prog (w.drew.setRow g cur1)=.ok (goInt 1) ((w.drew.setRow g cur1).setRow g cur2):=fun ty dc=>by
  have hm:Nat.min 1 (fs.length+1 - i)=1:=by simp only [Nat.min_def];split <;> omega
  have:=ZaK (w.drew.setRow g cur1) 31 31 ty 47 g (i*5) (fs.length+1 - i) dc ⟨vb,0,none⟩ 1 1 cur1 47 (fc f) U31 Zcv hg1 (by rw [hm];rfl) (Zrx hv1) (by rw [hfl,hs1];omega) (one5 _ _ _ _ _);rw [hm,<-hcur2] at this;exact this
 have hfin:ZaW lo (fs.take i++f :: fs.drop i) (.slice (some ⟨g,0,none⟩) fs.length cap) w (.returned (.slice (some ⟨g,0,none⟩) (fs.length+1) cap)) ((w.drew.setRow g cur1).setRow g cur2):=by
  have hlen:(fs.take i++f :: fs.drop i).length=fs.length+1:=by rw [List.length_append,List.length_cons,List.length_take,List.length_drop];omega
  refine ⟨g,cap,by rw [hlen],?_,?_,.inl rfl⟩
  ·rw [hlen];refine ⟨by rw [Zag,hlen],.inr ⟨g,cap,cur2,rfl,hlo,setRow_heap _ g cur1 cur2 _ _ hg1,hroom,hcap,?_,?_⟩⟩
   ·rw [<-hcur,<-Array.length_toList,h2c.1,Array.length_toList]
   ·rw [show (fs.length+1)*5=fs.length*5+5 by omega,h2c.2,Zok]
  ·have a1:=Zak w.drew g cur1;have a2:=Zak (w.drew.setRow g cur1) g cur2
   have a0:w.grownBy w.drew (some g):=⟨rfl,rfl,rfl,nl _,fun _ _ _=>rfl⟩
   exact (a0.trans a1).trans a2
 clear hl1 hl2 hcur1 hcur2 h2c htk hcl hcur hsz5 hs1 hg hvb hg1 hv1 hfl;generalize (ZaW lo (fs.take i++f :: fs.drop i) (.slice (some ⟨g,0,none⟩) fs.length cap) w)=Q at *;generalize fs.length=N at *;have hz2:¬ ((i:Int)=(N:Int)):=by omega
 have hz3:¬ (cap:Int)<(N:Int)+1:=by omega
 have hb3:(i:Int)<=(N:Int)+1:=by omega
 have hcN:¬ cap=i:=by omega
 have hcN1:¬ cap=i+1:=by omega
 have hNi:(N:Int)<=12:=by omega
 have hii:(i:Int)<(N:Int):=by omega
 have hcm:(cap:Int)<=9223372036854775807:=by unfold maxLen at hcap;omega
 have hroom':(N:Int)+1<=(cap:Int):=by omega
 have hw1:IntKind.i64.wrap ((i:Int)+1)=(i:Int)+1:=by rw [IntKind.wrap_i64];omega
 have hb1:(0:Int)<=(i:Int)+1:=by omega
 have htn:((i:Int)+1).toNat=i+1:=by omega
 have hin1:(i:Int)+1<=(N:Int)+1:=by omega
 have hin2:i<=N:=by omega
 have hin3:i<=N+1:=by omega
 have hin4:i+1<=N+1:=by omega
 go_enter Tryz.func30,Tryz.ntmps30
 go_wp2_with (simp only [hov])
 go_region_law (refine step_copy_runI rfl _ _ 31 31 rfl _ _ (by simp [Act.eval,Act.put]) (by simp [Act.eval,Act.put]) (hcp1 _ _ _) ?_)
 go_wp2_with (first
  | (at_builtin;refine wpList_copy_runI _ rfl _ _ 31 31 rfl _ _ rfl rfl (hcp2 _ _) ?_)
  | fail)
 exact hfin
theorem ZrW (n:Nat):(Builtin.zeroCells (Value.agg #[.string ⟨#[]⟩,.int .i64 0,.int .i64 0,.int .i64 0,.string ⟨#[]⟩]).cells n).size=n*5:=by
 simp [Builtin.zeroCells,Value.cells]
theorem Zit (lo:Nat) (fs:List Ar.F) (f:Ar.F) (g i:Nat) (cur:Array Value) (vb:Nat) (t:TypeId) (w:World) (hg:w.heap[g]?=some (.cells cur 47 (0,0))) (hlo:lo<=w.heap.size) (hcur:cur.size=fs.length*5) (htk:cur.toList.take (fs.length*5)=fcs fs)
 (hn:fs.length<=12) (hi:i<fs.length) (hvb:w.heap[vb]?=some (.cells (fc f).toArray t (0,0))) :
 Calls Tryz.prog 30 #[.slice (some ⟨g,0,none⟩) fs.length fs.length,.int .i64 (i:Nat),.slice (some ⟨vb,0,none⟩) 1 1] w fun e w'=>ZaW lo (fs.take i++f :: fs.drop i) (.slice (some ⟨g,0,none⟩) fs.length fs.length) w e w':=by
 obtain ⟨j0,gi,gz0,gz1,gz2⟩:=info_parts (P:=Tryz.prog) (e:=47) (z:=.agg #[.string ⟨#[]⟩,.int .i64 0,.int .i64 0,.int .i64 0,.string ⟨#[]⟩]) (size:=5) (bytes:=56) (by kernel_rfl);have hfl:(fc f).length=5:=rfl;have hcl:(fcs fs).length=fs.length*5:=Zag fs;have hgl:g<w.heap.size:=Array.getElem?_eq_some_iff.mp hg |>.1
 have hvl:vb<w.heap.size:=Array.getElem?_eq_some_iff.mp hvb |>.1
 have hcells:∀ (W:World) (o:Nat),(∀ j,W.cell? ⟨g,j,none⟩=w.cell? ⟨g,j,none⟩)->∀ j v,((fcs fs).drop o)[j]?=some v->W.cell? ((⟨g,o,none⟩:Addr).add j)=some v:=fun W o hW j v hj=>by
  rw [Go.WideShapes.add_plain,hW,ZgA hg,<-Array.getElem?_toList];rw [List.getElem?_drop,<-htk,List.getElem?_take] at hj;split at hj
  ·exact hj
  ·cases hj
 have hkk:(fs.length:Int)+1 - (i:Int)=((fs.length+1 - i:Nat):Int):=by omega
 have hik:i+(fs.length+1 - i)=fs.length+1:=by omega
 obtain ⟨G,hG⟩:∃ G,G=grownCap w (fs.length+1) fs.length 47:=⟨_,rfl⟩
 obtain ⟨Z,hZ⟩:∃ Z:List Value,Z=(Builtin.zeroCells (Value.agg #[.string ⟨#[]⟩,.int .i64 0,.int .i64 0,.int .i64 0,.string ⟨#[]⟩]).cells (fs.length+1 - i)++Builtin.zeroCells (Value.agg #[.string ⟨#[]⟩,.int .i64 0,.int .i64 0,.int .i64 0,.string ⟨#[]⟩]).cells (G - (fs.length+1))).toList:=⟨_,rfl⟩
 obtain ⟨ROW,hROW⟩:∃ ROW:Array Value,ROW=((fcs fs).take (i*5)).toArray++Builtin.zeroCells (Value.agg #[.string ⟨#[]⟩,.int .i64 0,.int .i64 0,.int .i64 0,.string ⟨#[]⟩]).cells (fs.length+1 - i)++Builtin.zeroCells (Value.agg #[.string ⟨#[]⟩,.int .i64 0,.int .i64 0,.int .i64 0,.string ⟨#[]⟩]).cells (G - (fs.length+1)):=⟨_,rfl⟩
 have hRl:ROW.toList=(fcs fs).take (i*5)++Z:=by rw [hROW,hZ];simp
 have hGn:fs.length+1<=G:=by rw [hG];exact grownCap_ge w _ _ _
 have hGm:G<=maxLen:=by rw [hG];exact grownCap_le_maxLen w _ _ _ (by unfold maxLen;omega)
 have hRs:ROW.size=G*5:=by
  rw [hROW];simp only [Array.size_append,ZrW,List.size_toArray,List.length_take,hcl];omega
 have hrz:∀ ty,(Builtin.append_ #[31,3] ty #[.slice (some ⟨g,0,none⟩) i fs.length,.int .i64 ((fs.length:Int)+1 - (i:Int))]).run Tryz.prog w =
  .ok (.slice (some ⟨w.heap.size,0,none⟩) (fs.length+1) G) (w.drew.alloc (.cells ROW 47)):=fun ty=>by
  have hold:(Builtin.firstCells j0.size i (.slice (some ⟨g,0,none⟩) i fs.length)).run Tryz.prog w.drew=.ok ((fcs fs).take (i*5)).toArray w.drew:=by
   rw [gz1]
   exact run_firstCells_some w.drew 5 i ⟨g,0,none⟩ i fs.length ((fcs fs).take (i*5)) (by rw [List.length_take,hcl];omega) (fun j v hj=>by
    rw [List.getElem?_take] at hj;split at hj
    ·exact hcells w.drew 0 (fun _=>rfl) j v hj
    ·cases hj)
  have h:=Lib.run_append_grow_zeros w 31 3 ty 47 j0 _ .i64 .i64 U31 zU3 gi gz0 (some ⟨g,0,none⟩) i fs.length ((fcs fs).take (i*5)) hold (fs.length+1 - i) (by omega) (by omega) (by omega) (by omega) (by rw [gz2];omega) (by rw [gz2,hik];exact growslice_fits (by omega) (by omega));rw [hik,<-hG,<-hROW] at h;rw [hkk];exact h
 obtain ⟨cur1,hcur1⟩:∃ cur1:Array Value,cur1=(ROW.toList.take (i*5)++fc f++ROW.toList.drop (i*5+(fc f).length)).toArray:=⟨_,rfl⟩
 obtain ⟨cur2,hcur2⟩:∃ cur2:Array Value,cur2=(cur1.toList.take (i*5+5)++(fcs fs).drop (i*5)++cur1.toList.drop (i*5+5+((fcs fs).drop (i*5)).length)).toArray:=⟨_,rfl⟩
 have hRL:ROW.toList.length=G*5:=by rw [Array.length_toList,hRs]
 have h2c:=Zll (cs:=fcs fs) (nw:=fc f) (z:=Z) (m:=fs.length*5) (i:=i*5) hcl (by rw [<-hRl];omega) (by omega) hfl;simp only at h2c;rw [<-hRl] at h2c;have hl1:cur1.toList=ROW.toList.take (i*5)++fc f++ROW.toList.drop (i*5+(fc f).length):=by rw [hcur1]
 rw [<-hl1] at h2c;have hl2:cur2.toList=cur1.toList.take (i*5+5)++(fcs fs).drop (i*5)++cur1.toList.drop (i*5+5+((fcs fs).drop (i*5)).length):=by rw [hcur2]
 rw [<-hl2] at h2c
 have hs1:cur1.size=G*5:=by
  rw [<-Array.length_toList,hl1];simp only [List.length_append,List.length_take,List.length_drop,Array.length_toList,hRs,hfl];omega
 obtain ⟨W1,hW1⟩:∃ W1,W1=(w.alloc (.cells ROW 47)).drew:=⟨_,rfl⟩
 have hg1:W1.heap[w.heap.size]?=some (.cells ROW 47 (0,0)):=by
  rw [hW1];show (w.heap.push _)[w.heap.size]?=_;rw [Array.getElem?_push_size]
 have hother:∀ k,k<w.heap.size->W1.heap[k]?=w.heap[k]?:=fun k hk=>by
  rw [hW1];show (w.heap.push _)[k]?=_;rw [Array.getElem?_push,if_neg (by omega)]
 have hv1:W1.heap[vb]?=some (.cells (fc f).toArray t (0,0)):=(hother vb hvl).trans hvb
 have hcp1:∀ ty dc,(Builtin.copy_ #[31,31] ty #[.slice (some ⟨w.heap.size,i*5,none⟩) (fs.length+1 - i) dc,.slice (some ⟨vb,0,none⟩) 1 1]).run Tryz.prog W1=.ok (goInt 1) (W1.setRow w.heap.size cur1):=fun ty dc=>by
  have hm:Nat.min 1 (fs.length+1 - i)=1:=by simp only [Nat.min_def];split <;> omega
  have:=ZaK W1 31 31 ty 47 w.heap.size (i*5) (fs.length+1 - i) dc ⟨vb,0,none⟩ 1 1 ROW 47 (fc f) U31 Zcv hg1 (by rw [hm];rfl) (Zrx hv1) (by rw [hfl,hRs];omega) (one5 _ _ _ _ _);rw [hm,<-hcur1] at this;exact this
 obtain ⟨W2,hW2⟩:∃ W2,W2=(W1.setRow w.heap.size cur1).drew:=⟨_,rfl⟩
 have hg2:W2.heap[w.heap.size]?=some (.cells cur1 47 (0,0)):=by rw [hW2];exact setRow_heap W1 w.heap.size ROW cur1 _ _ hg1
 have hgg2:W2.heap[g]?=w.heap[g]?:=by rw [hW2];exact (setRow_other W1 w.heap.size g cur1 (by omega)).trans (hother g hgl)
 have hcp2:∀ ty dc sc,(Builtin.copy_ #[31,31] ty #[.slice (some ⟨w.heap.size,(i+1)*5,none⟩) (fs.length - i) dc,.slice (some ⟨g,i*5,none⟩) (fs.length - i) sc]).run Tryz.prog W2=.ok (goInt ((fs.length - i:Nat):Int)) (W2.setRow w.heap.size cur2):=fun ty dc sc=>by
  have hm:Nat.min (fs.length - i) (fs.length - i)=fs.length - i:=by simp only [Nat.min_def];split <;> omega
  have:=ZaK W2 31 31 ty 47 w.heap.size (i*5+5) (fs.length - i) dc ⟨g,i*5,none⟩ (fs.length - i) sc cur1 47 ((fcs fs).drop (i*5)) U31 Zcv hg2 (by rw [hm,List.length_drop,hcl];omega)
   (hcells W2 (i*5) (fun j=>by rw [ZgA (hgg2.trans hg),ZgA hg]))
   (by rw [List.length_drop,hcl,hs1];omega) (fun v hv=>ZeF fs v (List.mem_of_mem_drop hv))
  rw [hm,<-hcur2] at this;rw [show (i+1)*5=i*5+5 by omega];exact this
 have hfin:ZaW lo (fs.take i++f :: fs.drop i) (.slice (some ⟨g,0,none⟩) fs.length fs.length) w (.returned (.slice (some ⟨w.heap.size,0,none⟩) (fs.length+1) G)) (W2.setRow w.heap.size cur2):=by
  have hlen:(fs.take i++f :: fs.drop i).length=fs.length+1:=by rw [List.length_append,List.length_cons,List.length_take,List.length_drop];omega
  refine ⟨w.heap.size,G,by rw [hlen],?_,?_,.inr (nl _)⟩
  ·rw [hlen];refine ⟨by rw [Zag,hlen],.inr ⟨w.heap.size,G,cur2,rfl,hlo,setRow_heap _ _ cur1 cur2 _ _ hg2,hGn,hGm,?_,?_⟩⟩
   ·rw [<-hRs,<-Array.length_toList,h2c.1,Array.length_toList]
   ·rw [show (fs.length+1)*5=fs.length*5+5 by omega,h2c.2,Zok]
  ·refine ⟨by rw [hW2,hW1];rfl,by rw [hW2,hW1];rfl,by rw [hW2,hW1];rfl,?_,fun k hk hne=>?_⟩
   ·rw [hW2,hW1];refine nt ?_ ((Zak _ _ _).4);refine nt ?_ ((Zak (w.alloc (.cells ROW 47)).drew w.heap.size cur1).4);show w.heap.size<=(w.heap.push _).size;rw [Array.size_push];omega
   ·rw [setRow_other W2 w.heap.size k cur2 (by omega),hW2];exact (setRow_other W1 w.heap.size k cur1 (by omega)).trans (hother k hk)
 subst hW2;subst hW1;have hneg:g ≠ w.heap.size:=by omega
 clear hl1 hl2 hcur1 hcur2 h2c htk hcl hcur hs1 hg hvb hg1 hv1 hfl hcells hother hg2 hgg2 hRs hRl hRL hZ hROW hG hkk hik;generalize (ZaW lo (fs.take i++f :: fs.drop i) (.slice (some ⟨g,0,none⟩) fs.length fs.length) w)=Q at *;generalize fs.length=N at *;have hz2:¬ ((i:Int)=(N:Int)):=by omega
 have hz3:(N:Int)<(N:Int)+1:=by omega
 have hb3:(i:Int)<=(N:Int):=by omega
 have hcN:¬ N=i:=by omega
 have hGi:¬ G=i:=by omega
 have hGi1:¬ G=i+1:=by omega
 have hNi:(N:Int)<=12:=by omega
 have hii:(i:Int)<(N:Int):=by omega
 have hcm:(G:Int)<=9223372036854775807:=by unfold maxLen at hGm;omega
 have hGn':(N:Int)+1<=(G:Int):=by omega
 have hw1:IntKind.i64.wrap ((i:Int)+1)=(i:Int)+1:=by rw [IntKind.wrap_i64];omega
 have hb1:(0:Int)<=(i:Int)+1:=by omega
 have htn:((i:Int)+1).toNat=i+1:=by omega
 have hin1:(i:Int)+1<=(N:Int)+1:=by omega
 have hin2:i<=N:=by omega
 have hin3:i<=N+1:=by omega
 have hin4:i+1<=N+1:=by omega
 go_enter Tryz.func30,Tryz.ntmps30
 go_wp2_with (first
  | (at_builtin;refine Lib.wpList_append_run _ rfl _ _ _ _ rfl _ _ rfl rfl _ _ (hrz _) ?_)
  | (at_builtin;refine wpList_copy_runI _ rfl _ _ 31 31 rfl _ _ rfl rfl (hcp1 _ _) ?_)
  | (at_builtin;refine wpList_copy_runI _ rfl _ _ 31 31 rfl _ _ rfl rfl (hcp2 _ _ _) ?_)
  | fail)
 go_region_law (refine step_copy_runI rfl _ _ 31 31 rfl _ _ (by simp [Act.eval,Act.put]) (by simp [Act.eval,Act.put]) (hcp2 _ _ _) ?_)
 go_wp2
 exact hfin
theorem Zlo (lo:Nat) (fs:List Ar.F) (f:Ar.F) (v2:Value) (i vb:Nat) (t:TypeId) (w:World) (hown:w.ownsRow lo 47 5 v2 fs.length (fcs fs)) (hn:fs.length<=12) (hi:i<=fs.length) (hvb:w.heap[vb]?=some (.cells (fc f).toArray t (0,0))) (hne:v2.ownBlock ≠ some vb) (hlo:lo<=w.heap.size) :
 Calls Tryz.prog 30 #[v2,.int .i64 (i:Nat),.slice (some ⟨vb,0,none⟩) 1 1] w fun e w'=>ZaW lo (fs.take i++f :: fs.drop i) v2 w e w':=by
 by_cases he:i=fs.length
 ·subst he;rw [List.take_of_length_le (Nat.le_refl _),List.drop_of_length_le (Nat.le_refl _)];exact Zkk lo fs f v2 vb t w hown hn hvb hlo
 ·rcases hown.2 with ⟨rfl,h0⟩ | ⟨g,cap,cur,rfl,h2,h3,h4,h5,h6,h7⟩
  ·omega
  ·by_cases hr:fs.length+1<=cap
   ·exact ZgL lo fs f g cap i cur vb t w h3 h2 h5 h6 h7 hn (by omega) hr hvb (fun e=>hne (by rw [e];rfl))
   ·obtain rfl:cap=fs.length:=by omega
    exact Zit lo fs f g i cur vb t w h3 hlo h6 h7 hn (by omega) hvb
def ArSaid (w:World) (a:Ar.A) (E:Int) (e:Ending) (w':World):Prop:=∃ v1 v2,e=.returned (.tuple #[.agg #[v1,v2],.int .i64 E])/\ArOwn w.heap.size w' v1 v2 a/\Below w.heap.size w w'
theorem ZhQ (lo:Nat) (w:World):ArOwn lo w (.slice none 0 0) (.slice none 0 0) Ar.az:=⟨⟨rfl,.inl ⟨rfl,rfl⟩⟩,⟨rfl,.inl ⟨rfl,rfl⟩⟩,fun j hj=>by simp [Value.ownBlock] at hj⟩
theorem Zx {w w':World} {E:Int} (h:Below w.heap.size w w'):ArSaid w Ar.az E (.returned (.tuple #[.agg #[.slice none 0 0,.slice none 0 0],.int .i64 E])) w':=⟨_,_,rfl,ZhQ _ _,h⟩
structure Fr (w w':World) (x y:Value):Prop where
 b:Below w.heap.size w w'
 a0:w'.cell? ⟨w.heap.size,0,none⟩=some x
 a1:w'.cell? ⟨w.heap.size,1,none⟩=some y
 r0:w'.cell? ⟨w.heap.size+1,0,none⟩=some (.slice none 0 0)
 r1:w'.cell? ⟨w.heap.size+1,1,none⟩=some (.slice none 0 0)
 z0:w'.frozen? ⟨w.heap.size+1,0,none⟩=false
 z1:w'.frozen? ⟨w.heap.size+1,1,none⟩=false
 hz:w.heap.size+1<w'.heap.size
theorem Fr.next {w w' w2:World} {x y:Value} (h:Fr w w' x y) (G:Below w'.heap.size w' w2):Fr w w2 x y:=by
 have h1:w.heap.size<w'.heap.size:=by have:=h.hz;omega
 exact ⟨bch h.b G (nl _),(G.cell (p:=⟨w.heap.size,0,none⟩) h1).trans h.a0,(G.cell (p:=⟨w.heap.size,1,none⟩) h1).trans h.a1,(G.cell (p:=⟨w.heap.size+1,0,none⟩) h.hz).trans h.r0,(G.cell (p:=⟨w.heap.size+1,1,none⟩) h.hz).trans h.r1,
  (G.frozen (p:=⟨w.heap.size+1,0,none⟩) h.hz).trans h.z0,(G.frozen (p:=⟨w.heap.size+1,1,none⟩) h.hz).trans h.z1,nT h.hz G.size⟩
theorem Fr.start (w:World) (x y:Value):Fr w ((w.alloc (.cells #[x,y] 33 (0,0))).alloc (.cells #[.slice none 0 0,.slice none 0 0] 33 (0,0))) x y:=by
 obtain ⟨k1,k2⟩:=box2 w #[x,y] #[.slice none 0 0,.slice none 0 0] 33 33;refine ⟨((bR _ _).alloc (nl _) _).alloc (by simp) _,k1 0,k1 1,k2 0,k2 1,?_,?_,by simp⟩
 ·exact fN _ _ _ _ (by simp)
 ·exact fN _ _ _ _ (by simp)
theorem Fr.zero {w w':World} {x y:Value} (h:Fr w w' x y):(w'.setCell ⟨w.heap.size+1,0,none⟩ (.slice none 0 0)).setCell ⟨w.heap.size+1,1,none⟩ (.slice none 0 0)=w':=by
 rw [ZP h.r0,ZP h.r1]
theorem ZqZ (ad af:Option Addr) (cd cf:Nat) (a:Ar.A) (name text:ByteArray) (dict:Int) (w:World) (h:ArV w ad af a) (hs:SaneA a) (hc:Ar.chk a ≠ 0) :
 Calls Tryz.prog 12 #[av ad cd af cf a,.string name,.string text,.int .i64 dict] w fun e w'=>ArSaid w Ar.az (Ar.chk a) e w':=by
 have C1:Hid (∀ w',Below w.heap.size w w'->Calls Tryz.prog 24 #[av ad cd af cf a] w' fun e w2=>e=.returned (.int .i64 (Ar.chk a))/\Below w'.heap.size w' w2):=fun w' h9=>Zv ad af cd cf a w' (h.below h9) hs
 have hQ:Hid (∀ w',Below w.heap.size w w'->ArSaid w Ar.az (Ar.chk a) (.returned (.tuple #[.agg #[.slice none 0 0,.slice none 0 0],.int .i64 (Ar.chk a)])) w'):=fun w' h9=>Zx h9
 generalize ArSaid w Ar.az (Ar.chk a)=Q at *;unfold av at C1 |-
 generalize Ar.chk a=E at *;generalize a.dicts.length=D at *;generalize a.files.length=N at *;have e1:(E != 0)=true:=by simpa using hc
 have e2:(E == 0)=false:=by simpa using hc
 clear h hs;go_enter Tryz.func12,Tryz.ntmps12
 go_wp2_with fail
 refine (C1.out _ (Fr.start w _ _).b).mono ?_;rintro e w1 ⟨rfl,G1⟩;have F1:=(Fr.start w _ _).next G1;clear G1;obtain ⟨b,a0,a1,r0,r1,z0,z1,hz⟩:=id F1;go_wp2_with fail
 rw [F1.zero];exact bodyPost_ret (v:=.tuple #[.agg #[.slice none 0 0,.slice none 0 0],.int .i64 E]) (by simp [results,Tryz.results12,go_sem,F1.r0,F1.r1]) rfl (hQ.out _ F1.b)
theorem Zuj (ad af:Option Addr) (cd cf:Nat) (a:Ar.A) (name text:ByteArray) (dict:Int) (w:World) (h:ArV w ad af a) (hs:SaneA a) (hn:name.size<=140737488355328) (hc:Ar.chk a=0) (hm:Ar.isNm name=false) :
 Calls Tryz.prog 12 #[av ad cd af cf a,.string name,.string text,.int .i64 dict] w fun e w'=>ArSaid w Ar.az 4 e w':=by
 have C1:Hid (∀ w',Below w.heap.size w w'->Calls Tryz.prog 24 #[av ad cd af cf a] w' fun e w2=>e=.returned (.int .i64 (Ar.chk a))/\Below w'.heap.size w' w2):=fun w' h9=>Zv ad af cd cf a w' (h.below h9) hs
 have C2:Hid (∀ w',Calls Tryz.prog 25 #[.string name] w' fun e w2=>e=.returned (.bool (Ar.isNm name))/\w2=w'):=fun w'=>Zav name w' hn
 have hQ:Hid (∀ w',Below w.heap.size w w'->ArSaid w Ar.az 4 (.returned (.tuple #[.agg #[.slice none 0 0,.slice none 0 0],.int .i64 4])) w'):=fun w' h9=>Zx h9
 generalize ArSaid w Ar.az 4=Q at *;rw [hc] at C1;rw [hm] at C2;unfold av at C1 |-
 generalize a.dicts.length=D at *;generalize a.files.length=N at *;clear h hs hn hc hm;go_enter Tryz.func12,Tryz.ntmps12
 go_wp2_with fail
 refine (C1.out _ (Fr.start w _ _).b).mono ?_;rintro e w1 ⟨rfl,G1⟩;have F1:=(Fr.start w _ _).next G1;clear G1;obtain ⟨b,a0,a1,r0,r1,z0,z1,hz⟩:=id F1;go_wp2_with fail
 refine (C2.out _).mono ?_;rintro e w2 ⟨rfl,rfl⟩;go_wp2_with fail
 rw [F1.zero];exact bodyPost_ret (v:=.tuple #[.agg #[.slice none 0 0,.slice none 0 0],.int .i64 4]) (by simp [results,Tryz.results12,go_sem,F1.r0,F1.r1]) rfl (hQ.out _ F1.b)
theorem Zpk (ad af:Option Addr) (cd cf:Nat) (a:Ar.A) (name text:ByteArray) (dict:Int) (w:World) (h:ArV w ad af a) (hs:SaneA a) (hn:name.size<=140737488355328) (hc:Ar.chk a=0) (hm:Ar.isNm name=true) (hd:Ar.has a.dicts dict=false) :
 Calls Tryz.prog 12 #[av ad cd af cf a,.string name,.string text,.int .i64 dict] w fun e w'=>ArSaid w Ar.az 3 e w':=by
 have C1:Hid (∀ w',Below w.heap.size w w'->Calls Tryz.prog 24 #[av ad cd af cf a] w' fun e w2=>e=.returned (.int .i64 (Ar.chk a))/\Below w'.heap.size w' w2):=fun w' h9=>Zv ad af cd cf a w' (h.below h9) hs
 have C2:Hid (∀ w',Calls Tryz.prog 25 #[.string name] w' fun e w2=>e=.returned (.bool (Ar.isNm name))/\w2=w'):=fun w'=>Zav name w' hn
 have C3:Hid (∀ w',Calls Tryz.prog 26 #[av ad cd af cf a,.int .i64 dict] w' fun e w2=>e=.returned (.bool (Ar.has a.dicts dict))/\Below w'.heap.size w' w2):=fun w'=>Zaw ad af cd cf a dict w' hs.nd
 have hQ:Hid (∀ w',Below w.heap.size w w'->ArSaid w Ar.az 3 (.returned (.tuple #[.agg #[.slice none 0 0,.slice none 0 0],.int .i64 3])) w'):=fun w' h9=>Zx h9
 generalize ArSaid w Ar.az 3=Q at *;rw [hc] at C1;rw [hm] at C2;rw [hd] at C3;unfold av at C1 C3 |-
 generalize a.dicts.length=D at *;generalize a.files.length=N at *;clear h hs hn hc hm hd;go_enter Tryz.func12,Tryz.ntmps12
 go_wp2_with fail
 refine (C1.out _ (Fr.start w _ _).b).mono ?_;rintro e w1 ⟨rfl,G1⟩;have F1:=(Fr.start w _ _).next G1;clear G1;obtain ⟨b,a0,a1,r0,r1,z0,z1,hz⟩:=id F1;go_wp2_with fail
 refine (C2.out _).mono ?_;rintro e w2 ⟨rfl,rfl⟩;go_wp2_with fail
 refine (C3.out _).mono ?_;rintro e w3 ⟨rfl,G3⟩;clear b a0 a1 r0 r1 z0 z1 hz;have F3:=F1.next G3;clear G3;obtain ⟨b,a0,a1,r0,r1,z0,z1,hz⟩:=id F3;go_wp2_with fail
 rw [F3.zero];exact bodyPost_ret (v:=.tuple #[.agg #[.slice none 0 0,.slice none 0 0],.int .i64 3]) (by simp [results,Tryz.results12,go_sem,F3.r0,F3.r1]) rfl (hQ.out _ F3.b)
theorem ZoR (ad af:Option Addr) (cd cf:Nat) (a:Ar.A) (name text:ByteArray) (dict:Int) (w:World) (h:ArV w ad af a) (hs:SaneA a) (hn:name.size<=140737488355328) (ht:text.size<=140737488355328) (hc:Ar.chk a=0) (hm:Ar.isNm name=true) (hd:Ar.has a.dicts dict=true) (hl:512<text.size) :
 Calls Tryz.prog 12 #[av ad cd af cf a,.string name,.string text,.int .i64 dict] w fun e w'=>ArSaid w Ar.az 2 e w':=by
 have C1:Hid (∀ w',Below w.heap.size w w'->Calls Tryz.prog 24 #[av ad cd af cf a] w' fun e w2=>e=.returned (.int .i64 (Ar.chk a))/\Below w'.heap.size w' w2):=fun w' h9=>Zv ad af cd cf a w' (h.below h9) hs
 have C2:Hid (∀ w',Calls Tryz.prog 25 #[.string name] w' fun e w2=>e=.returned (.bool (Ar.isNm name))/\w2=w'):=fun w'=>Zav name w' hn
 have C3:Hid (∀ w',Calls Tryz.prog 26 #[av ad cd af cf a,.int .i64 dict] w' fun e w2=>e=.returned (.bool (Ar.has a.dicts dict))/\Below w'.heap.size w' w2):=fun w'=>Zaw ad af cd cf a dict w' hs.nd
 have hsr:=Ar.ZaX hc;obtain ⟨m1,m2,m3⟩:=Ar.Zw.1 (Ar.Ze.1 hc).1;have C4:Hid (∀ w',Below w.heap.size w w'->Calls Tryz.prog 27 #[av ad cd af cf a,.string name] w' fun e w2=>e=.returned (.tuple #[.int .i64 (Ar.pos a.files name:Nat),.bool (Ar.ZK a.files name)])/\Below w'.heap.size w' w2):=fun w' h9=>ZbN ad af cd cf a name w' (h.fs.below h9) (by omega) hsr
 have hQ:Hid (∀ w',Below w.heap.size w w'->ArSaid w Ar.az 2 (.returned (.tuple #[.agg #[.slice none 0 0,.slice none 0 0],.int .i64 2])) w'):=fun w' h9=>Zx h9
 generalize ArSaid w Ar.az 2=Q at *;rw [hc] at C1;rw [hm] at C2;rw [hd] at C3;have hp:=Ar.ZbE a.files name;generalize Ar.pos a.files name=p at *;generalize Ar.ZK a.files name=T at *;unfold av at C1 C3 C4 |-
 clear h hs hn hc hm hd hsr m3;generalize a.dicts.length=D at *;generalize a.files.length=N at *;have hl':(512:Int)<(text.size:Int):=by omega
 have d1:decide ((512:Int)<(text.size:Int))=true:=zdT hl';go_enter Tryz.func12,Tryz.ntmps12
 go_wp2_with fail
 refine (C1.out _ (Fr.start w _ _).b).mono ?_;rintro e w1 ⟨rfl,G1⟩;have F1:=(Fr.start w _ _).next G1;clear G1;obtain ⟨b,a0,a1,r0,r1,z0,z1,hz⟩:=id F1;go_wp2_with fail
 refine (C2.out _).mono ?_;rintro e w2 ⟨rfl,rfl⟩;go_wp2_with fail
 refine (C3.out _).mono ?_;rintro e w3 ⟨rfl,G3⟩;clear b a0 a1 r0 r1 z0 z1 hz;have F3:=F1.next G3;clear G3;obtain ⟨b,a0,a1,r0,r1,z0,z1,hz⟩:=id F3;go_wp2_with fail
 refine (C4.out _ F3.b).mono ?_;rintro e w4 ⟨rfl,G4⟩;clear b a0 a1 r0 r1 z0 z1 hz;have F4:=F3.next G4;clear G4;obtain ⟨b,a0,a1,r0,r1,z0,z1,hz⟩:=id F4;go_wp2_with fail
 rw [F4.zero];exact bodyPost_ret (v:=.tuple #[.agg #[.slice none 0 0,.slice none 0 0],.int .i64 2]) (by simp [results,Tryz.results12,go_sem,F4.r0,F4.r1]) rfl (hQ.out _ F4.b)
theorem Zpg (ad af:Option Addr) (cd cf:Nat) (a:Ar.A) (name text:ByteArray) (dict:Int) (w:World) (h:ArV w ad af a) (hs:SaneA a) (hn:name.size<=140737488355328) (hc:Ar.chk a=0) (hm:Ar.isNm name=true) (hd:Ar.has a.dicts dict=true) (hl:text.size<=512) (hT:Ar.ZK a.files name=false) (hF:a.files.length=12) :
 Calls Tryz.prog 12 #[av ad cd af cf a,.string name,.string text,.int .i64 dict] w fun e w'=>ArSaid w Ar.az 2 e w':=by
 have C1:Hid (∀ w',Below w.heap.size w w'->Calls Tryz.prog 24 #[av ad cd af cf a] w' fun e w2=>e=.returned (.int .i64 (Ar.chk a))/\Below w'.heap.size w' w2):=fun w' h9=>Zv ad af cd cf a w' (h.below h9) hs
 have C2:Hid (∀ w',Calls Tryz.prog 25 #[.string name] w' fun e w2=>e=.returned (.bool (Ar.isNm name))/\w2=w'):=fun w'=>Zav name w' hn
 have C3:Hid (∀ w',Calls Tryz.prog 26 #[av ad cd af cf a,.int .i64 dict] w' fun e w2=>e=.returned (.bool (Ar.has a.dicts dict))/\Below w'.heap.size w' w2):=fun w'=>Zaw ad af cd cf a dict w' hs.nd
 have hsr:=Ar.ZaX hc;obtain ⟨m1,m2,m3⟩:=Ar.Zw.1 (Ar.Ze.1 hc).1;have C4:Hid (∀ w',Below w.heap.size w w'->Calls Tryz.prog 27 #[av ad cd af cf a,.string name] w' fun e w2=>e=.returned (.tuple #[.int .i64 (Ar.pos a.files name:Nat),.bool (Ar.ZK a.files name)])/\Below w'.heap.size w' w2):=fun w' h9=>ZbN ad af cd cf a name w' (h.fs.below h9) (by omega) hsr
 have hQ:Hid (∀ w',Below w.heap.size w w'->ArSaid w Ar.az 2 (.returned (.tuple #[.agg #[.slice none 0 0,.slice none 0 0],.int .i64 2])) w'):=fun w' h9=>Zx h9
 generalize ArSaid w Ar.az 2=Q at *;rw [hc] at C1;rw [hm] at C2;rw [hd] at C3;rw [hT] at C4;have hp:=Ar.ZbE a.files name;generalize Ar.pos a.files name=p at *;unfold av at C1 C3 C4 |-
 clear h hs hn hc hm hd hsr m3 hT;rw [hF] at C1 C3 C4 |-
 generalize a.dicts.length=D at *;have hl':¬ (512:Int)<(text.size:Int):=by omega
 have d1:decide ((512:Int)<(text.size:Int))=false:=dF hl';go_enter Tryz.func12,Tryz.ntmps12
 go_wp2_with fail
 refine (C1.out _ (Fr.start w _ _).b).mono ?_;rintro e w1 ⟨rfl,G1⟩;have F1:=(Fr.start w _ _).next G1;clear G1;obtain ⟨b,a0,a1,r0,r1,z0,z1,hz⟩:=id F1;go_wp2_with fail
 refine (C2.out _).mono ?_;rintro e w2 ⟨rfl,rfl⟩;go_wp2_with fail
 refine (C3.out _).mono ?_;rintro e w3 ⟨rfl,G3⟩;clear b a0 a1 r0 r1 z0 z1 hz;have F3:=F1.next G3;clear G3;obtain ⟨b,a0,a1,r0,r1,z0,z1,hz⟩:=id F3;go_wp2_with fail
 refine (C4.out _ F3.b).mono ?_;rintro e w4 ⟨rfl,G4⟩;clear b a0 a1 r0 r1 z0 z1 hz;have F4:=F3.next G4;clear G4;obtain ⟨b,a0,a1,r0,r1,z0,z1,hz⟩:=id F4;go_wp2_with fail
 rw [F4.zero];exact bodyPost_ret (v:=.tuple #[.agg #[.slice none 0 0,.slice none 0 0],.int .i64 2]) (by simp [results,Tryz.results12,go_sem,F4.r0,F4.r1]) rfl (hQ.out _ F4.b)
theorem ZlD:∀ (fs:List Ar.F) (i:Nat) (f:Ar.F),i<fs.length->fcs (fs.take i++f :: fs.drop (i+1))=(fcs fs).take (i*5)++fc f++(fcs fs).drop (i*5+5):=by
 intro fs i f _;rw [Zy,fcs,ZdK,ZdG,List.append_assoc,show (i+1)*5=i*5+5 by omega];rfl
theorem ZkK {fs:List Ar.F} {f:Ar.F} (h:Ar.ZK fs f.name=true):Ar.putF fs f=fs.take (Ar.pos fs f.name)++f :: fs.drop (Ar.pos fs f.name+1):=by
 unfold Ar.putF;rw [if_pos h]
theorem ZoD {fs:List Ar.F} {f:Ar.F} (h:Ar.ZK fs f.name=false):Ar.putF fs f=fs.take (Ar.pos fs f.name)++f :: fs.drop (Ar.pos fs f.name):=by
 unfold Ar.putF;rw [if_neg (by rw [h];decide),Nat.add_zero]
theorem ZgO (A R:List Value) (x v:Value) (o:Nat) (h:A.length=o):(A++x :: R).set o v=A++v :: R:=by
 subst h;simp
theorem ZoH {l:List Value} {o:Nat} (v0 v1 v2 v3 v4:Value) (h:o+5<=l.length):((((l.set o v0).set (o+1) v1).set (o+2) v2).set (o+3) v3).set (o+4) v4=l.take o++[v0,v1,v2,v3,v4]++l.drop (o+5):=by
 have hA:(l.take o).length=o:=by rw [List.length_take];omega
 have hl:l=l.take o++l.drop o:=(List.take_append_drop o l).symm;have hd:l.drop (o+5)=(l.drop o).drop 5:=by rw [List.drop_drop]
 rw [hd];have hD:5<=(l.drop o).length:=by rw [List.length_drop];omega
 generalize l.take o=A at *;generalize l.drop o=D at *;subst hl
 match D,hD with
 | x0 :: x1 :: x2 :: x3 :: x4 :: R,_ =>
  rw [ZgO A _ x0 v0 o hA];rw [show A++v0 :: x1 :: x2 :: x3 :: x4 :: R=(A++[v0])++x1 :: x2 :: x3 :: x4 :: R by simp,ZgO (A++[v0]) _ x1 v1 (o+1) (by simp [hA])];rw [show (A++[v0])++v1 :: x2 :: x3 :: x4 :: R=(A++[v0,v1])++x2 :: x3 :: x4 :: R by simp,ZgO (A++[v0,v1]) _ x2 v2 (o+2) (by simp [hA])];rw [show (A++[v0,v1])++v2 :: x3 :: x4 :: R=(A++[v0,v1,v2])++x3 :: x4 :: R by simp,ZgO (A++[v0,v1,v2]) _ x3 v3 (o+3) (by simp [hA])];rw [show (A++[v0,v1,v2])++v3 :: x4 :: R=(A++[v0,v1,v2,v3])++x4 :: R by simp,ZgO (A++[v0,v1,v2,v3]) _ x4 v4 (o+4) (by simp [hA])];simp
theorem ZaR {w:World} {g o:Nat} {cur:Array Value} {t:TypeId} (v:Value) (h:w.heap[g]?=some (.cells cur t (0,0))):(w.setCell ⟨g,o,none⟩ v).heap[g]?=some (.cells (cur.setIfInBounds o v) t (0,0)):=by
 simp [World.setCell,Array.getElem?_modify,h]
theorem ZsV {w:World} {g o:Nat} {cur:Array Value} {t:TypeId} (v0 v1 v2 v3 v4:Value) (h:w.heap[g]?=some (.cells cur t (0,0))) (ho:o+5<=cur.size) :
 (w5s w g o v0 v1 v2 v3 v4).heap[g]?=some (.cells (cur.toList.take o++[v0,v1,v2,v3,v4]++cur.toList.drop (o+5)).toArray t (0,0)):=by
 have h0:=ZaR (o:=o) v0 h;have h1:=ZaR (o:=o+1) v1 h0;have h2:=ZaR (o:=o+2) v2 h1;have h3:=ZaR (o:=o+3) v3 h2;have h4:=ZaR (o:=o+4) v4 h3
 have e:((((cur.setIfInBounds o v0).setIfInBounds (o+1) v1).setIfInBounds (o+2) v2).setIfInBounds (o+3) v3).setIfInBounds (o+4) v4=(cur.toList.take o++[v0,v1,v2,v3,v4]++cur.toList.drop (o+5)).toArray:=by
  apply Array.toList_inj.1;simp only [Array.toList_setIfInBounds];exact ZoH v0 v1 v2 v3 v4 (by simpa using ho)
 rw [e] at h4;unfold w5s;exact h4
theorem ZcN (w:World) (g o:Nat) (v0 v1 v2 v3 v4:Value):w.grownBy (w5s w g o v0 v1 v2 v3 v4) (some g):=by
 unfold w5s;have h0:=Zc w ⟨g,o,none⟩ v0;generalize w.setCell ⟨g,o,none⟩ v0=w0 at *;have h1:=Zc w0 ⟨g,o+1,none⟩ v1;generalize w0.setCell ⟨g,o+1,none⟩ v1=w1 at *;have h2:=Zc w1 ⟨g,o+2,none⟩ v2;generalize w1.setCell ⟨g,o+2,none⟩ v2=w2 at *;have h3:=Zc w2 ⟨g,o+3,none⟩ v3;generalize w2.setCell ⟨g,o+3,none⟩ v3=w3 at *;have h4:=Zc w3 ⟨g,o+4,none⟩ v4;exact (((h0.trans h1).trans h2).trans h3).trans h4
theorem Zfx {w:World} {lo g cap i:Nat} {fs:List Ar.F} (f:Ar.F) (h:w.ownsRow lo 47 5 (.slice (some ⟨g,0,none⟩) fs.length cap) fs.length (fcs fs)) (hi:i<fs.length) :
 (w5s w g (i*5) (.string f.name) (.int .i64 f.dict) (.int .i64 f.size) (.int .i64 f.sum) (.string f.blk)).ownsRow lo 47 5 (.slice (some ⟨g,0,none⟩) fs.length cap) fs.length (fcs (fs.take i++f :: fs.drop (i+1))):=by
 have hcl:=Zag fs;rcases h.2 with ⟨h1,h2⟩ | ⟨g',cap',cur,h1,h2,h3,h4,h5,h6,h7⟩
 ·omega
 ·simp only [Value.slice.injEq,Option.some.injEq,Addr.mk.injEq] at h1;obtain ⟨⟨rfl,_⟩,_,rfl⟩:=h1;have hsz:i*5+5<=cur.size:=by omega
  refine ⟨?_,.inr ⟨g,cap,_,rfl,h2,ZsV _ _ _ _ _ h3 hsz,h4,h5,?_,?_⟩⟩
  ·rw [ZlD fs i f hi];simp only [List.length_append,List.length_take,List.length_drop,fc,List.length_cons,List.length_nil];omega
  ·rw [List.size_toArray];simp only [List.length_append,List.length_take,List.length_drop,List.length_cons,List.length_nil,Array.length_toList];omega
  ·rw [ZlD fs i f hi,<-h7];have e1:cur.toList.length=cap*5:=by simpa using h6
   show List.take (fs.length*5) (cur.toList.take (i*5)++fc f++cur.toList.drop (i*5+5))=_;rw [List.take_append,List.take_of_length_le (by simp only [List.length_append,List.length_take,fc,List.length_cons,List.length_nil];omega),List.take_take,List.drop_take];have e3:min (i*5) (fs.length*5)=i*5:=by omega
   have e4:(cur.toList.take (i*5)++fc f).length=i*5+5:=by simp only [List.length_append,List.length_take,fc,List.length_cons,List.length_nil];omega
   rw [e3,e4]
end Go.Proofs.YtbjbjbpgmojcbacGreat
