/- A part of the proof: what it leans on. -/
import Derived.Test.YtbjbjbpgmojcbacGreatLk31
import Derived.Test.YtbjbjbpgmojcbacGreatLk17
set_option maxRecDepth 4000
set_option maxHeartbeats 1000000
namespace Go.Proofs.YtbjbjbpgmojcbacGreat
open Go.RowKit
theorem ZbT {ops:Array Oper} {rest:List Oper} {o:Oper} {a:Act} {w:World} {Q:Exit->Act->World->Prop} (hg:o.guard=none) (x:Operand) (ho:o.op=.build 195 #[(1,x)]) (c:Int) (hx:a.eval x=.int .i64 c)
 (h:wpList Tryz.prog ops Q rest (a.put o.dst (.agg (trc ⟨fun _=>false,c⟩))) w):wpList Tryz.prog ops Q (o :: rest) a w:=by
 have hb:Tryz.prog.built 195 [(1,.int .i64 c)]=some (trc ⟨fun _=>false,c⟩):=by kernel_rfl
 have he:((#[(1,x)]:Array (Nat × Operand)).map fun (i,x)=>(i,a.eval x)).toList=[(1,.int .i64 c)]:=by
  simp only [List.map_toArray,List.map_cons,List.map_nil,hx]
 refine wpList_build hg 195 _ ho ?_ ?_
 ·rw [he,hb];rfl
 ·rw [he,hb];exact h
def Tr.set (t:Tr) (k:Nat) (b:Bool):Tr:=⟨fun j=>if j=k then b else t.h j,t.w⟩
theorem Zmj (t:Tr) (k:Nat) (hk:k<16) (b:Bool):(trc t).setIfInBounds k (.bool b)=trc (t.set k b):=by
 apply Array.ext_getElem?;intro i;rw [Array.getElem?_setIfInBounds,Zah];by_cases hi:i<16
 ·rw [Zsv _ i hi,Zsv _ i hi];by_cases e:k=i
  ·subst e;rw [if_pos rfl,if_pos (by omega)];simp [Tr.set]
  ·rw [if_neg e];have e':¬ i=k:=fun h=>e h.symm
   simp [Tr.set,e']
 ·rw [if_neg (by omega)];by_cases h16:i=16
  ·subst h16;rw [Zrd,Zrd];rfl
  ·rw [Array.getElem?_eq_none (by rw [Zah];omega),Array.getElem?_eq_none (by rw [Zah];omega)]
theorem TrAt.set {w:World} {g:Nat} {t:Tr} (H:TrAt w g t) (k:Nat) (hk:k<16) (b:Bool):TrAt (w.setCell ⟨g,k,none⟩ (.bool b)) g (t.set k b):=by
 refine ⟨by have:=H.1;simpa [World.setCell] using this,?_⟩;rw [ZcB H.2,Zmj t k hk]
theorem TrAt.setFar {w:World} {g:Nat} {t:Tr} (H:TrAt w g t) {q:Nat} (hq:q ≠ g) (k:Nat) (v:Value):TrAt (w.setCell ⟨q,k,none⟩ v) g t:=by
 refine ⟨by have:=H.1;simpa [World.setCell] using this,?_⟩;rw [ZcH hq];exact H.2
theorem TrAt.congr {w:World} {g:Nat} {s t:Tr} (H:TrAt w g s) (h:∀ i,i<16->s.h i=t.h i) (hw:s.w=t.w):TrAt w g t:=⟨H.1,by rw [H.2,Zhm h hw]⟩
theorem RowAt.block {w w':World} {g:Nat} {f:Nat->Int} (H:RowAt w g f) (he:w'.heap[g]?=w.heap[g]?):RowAt w' g f:=by
 have h2:=he.trans H.2;exact ⟨(aG.1 h2).1,h2⟩
theorem Zbd {w:World} {base g k:Nat} {x:Value} {t:TypeId} {sz n:Nat} {v:Value} {cs:List Value} (ho:w.ownsRow base t sz v n cs) (hne:v.ownBlock ≠ some g):(w.setCell ⟨g,k,none⟩ x).ownsRow base t sz v n cs:=by
 refine ⟨ho.1,?_⟩;rcases ho.2 with h0 | ⟨q,cap,cur,rfl,e1,e2,e3⟩
 ·exact .inl h0
 ·refine .inr ⟨q,cap,cur,rfl,e1,?_,e3⟩;rw [ZcH (fun e=>hne (by rw [e];rfl))];exact e2
theorem ZfZ {a b:Nat->Bool} {k j:Nat} {x:Bool} {W:Int} (h:x=(a k || b k)):(Tr.set ⟨fun j=>decide (j<k) && (a j || b j),W⟩ k x).h j=(decide (j<k+1) && (a j || b j)):=by
 simp only [Tr.set];by_cases e:j=k
 ·subst e;rw [if_pos rfl,h];simp
 ·rw [if_neg e];by_cases h1:j<k
  ·simp [h1,show j<k+1 by omega]
  ·simp [h1,show ¬ j<k+1 by omega]
theorem ZiW {ta tb:Tr} {L:Nat->Int} {k j:Nat} (h:(ta.h k || tb.h k)=true):upd (fun j=>if j<k then Cd.incr (Cd.mrg ta tb) L j else L j) k (L k+1) j=if j<k+1 then Cd.incr (Cd.mrg ta tb) L j else L j:=by
 unfold upd;by_cases e:j=k
 ·subst e;rw [if_pos rfl,if_pos (by omega),Cd.incr,if_pos (by simpa [Cd.mrg] using h)]
 ·rw [if_neg e];simp only;by_cases h1:j<k
  ·rw [if_pos h1,if_pos (by omega)]
  ·rw [if_neg h1,if_neg (by omega)]
theorem ZsA {ta tb:Tr} {L:Nat->Int} {k j:Nat} (h:(ta.h k || tb.h k)=false):(if j<k then Cd.incr (Cd.mrg ta tb) L j else L j)=if j<k+1 then Cd.incr (Cd.mrg ta tb) L j else L j:=by
 by_cases e:j=k
 ·subst e;rw [if_neg (by omega),if_pos (by omega),Cd.incr,if_neg (by simp only [Cd.mrg,h];simp)]
 ·by_cases h1:j<k
  ·rw [if_pos h1,if_pos (by omega)]
  ·rw [if_neg h1,if_neg (by omega)]
theorem Zlu {w:World} {N:Nat} (h:w.heap.size=N) (c c':Array Value) (t:TypeId):(w.alloc (.cells c t)).setRow N c'=w.alloc (.cells c' t):=by subst h;exact World.setRow_alloc_new w c c' t
theorem ZoC {w:World} {N:Nat} (h:w.heap.size=N) (o:Obj):(w.alloc o).heap[N]?=some o:=by subst h;exact heap_alloc_last w o
theorem TrAt.newN {w:World} {N:Nat} (h:w.heap.size=N) (t:Tr):TrAt (w.alloc (.cells (trc t) 195)) N t:=by subst h;exact TrAt.new w t
theorem Zfv {w:World} {base:Nat} {t:TypeId} {sz n:Nat} {v:Value} {cs:List Value} (ho:w.ownsRow base t sz v n cs):∃ ad cap,v=.slice ad n cap:=by
 rcases ho.2 with ⟨h,h0⟩ | ⟨q,cap,cur,h,_⟩
 ·exact ⟨none,0,by rw [h,h0]⟩
 ·exact ⟨_,cap,h⟩
theorem ZoI {w:World} {base base':Nat} {t:TypeId} {sz n:Nat} {v:Value} {cs:List Value} (ho:w.ownsRow base' t sz v n cs) (h:base<=base'):w.ownsRow base t sz v n cs:=by
 refine ⟨ho.1,?_⟩;rcases ho.2 with h0 | ⟨q,cap,cur,rfl,e1,e2,e3⟩
 ·exact .inl h0
 ·exact .inr ⟨q,cap,cur,rfl,by omega,e2,e3⟩
theorem Zgf (c:Nat->Int) (w:World) (h1:¬ Cd.InR c 2048 16) :
 Calls Tryz.prog 139 #[.agg (arr c)] w fun e w'=>e=.returned (.tuple #[.agg (arr (fun _=>0)),.int .i64 3])/\Below w.heap.size w w':=by
 have hcn:=fun w=>ZbV c w
 rw [decide_eq_false h1] at hcn;have hin:=Zb c;have hz:=Zb (fun _=>0);obtain ⟨R1,R2,R4,HB⟩:=Zod w c (fun _=>0);rw [<-Zk] at R1 R2 R4 HB;clear h1;go_enter Tryz.func139,Tryz.ntmps139
 go_wp2_with (refine wpList_load_row rfl 127 _ rfl w.heap.size rfl 127 (arr c) (0,0) _ R1.2 U127 rfl hin ?_)
 refine (hcn _).mono ?_;rintro e w1 ⟨rfl,G1⟩;have S2:=R2.below G1;have S4:=R4.below G1;have B1:=bch HB G1 (nl _);clear R1 R2 R4 HB G1 hcn;go_wp2_with (first | refine wpList_load_row rfl 127 _ rfl (w.heap.size+1+1) rfl 127 (arr fun _=>0) (0,0) _ S4.2 U127 rfl hz ?_ | refine wpList_store_row rfl 127 _ _ rfl (w.heap.size+1) (arr fun _=>0) rfl rfl 127 _ S2.2 hz rfl (ZV _) ?_)
 have U2:=S2.setRow (fun _=>0);exact bodyPost_ret (v:=.tuple #[.agg (arr fun _=>0),.int .i64 3]) (ZI Tryz.results139 _ _ (w.heap.size+1) 127 _ (0,0) _ rfl U2.2 U127 rfl hz _ rfl) rfl ⟨rfl,Zn B1 (Nat.le_succ _) _⟩
theorem ZkB (c:Nat->Int) (w:World) (h1:Cd.InR c 2048 16) :
 Calls Tryz.prog 139 #[.agg (arr c)] w fun e w'=>e=.returned (.tuple #[.agg (arr (Cd.bld c).1),.int .i64 (Cd.bld c).2])/\Below w.heap.size w w':=by
 have hcn:=fun w=>ZbV c w
 rw [decide_eq_true h1] at hcn;have hin:=Zb c;have hz:=Zb (fun _=>0);have HR:Hid (Cd.InR c 2048 16):=h1
 obtain ⟨r1,r2,hr⟩:∃ r1 r2,Cd.bld c=(r1,r2):=⟨_,_,rfl⟩
 rw [hr];have Hr:Hid (Cd.bld c=(r1,r2)):=hr;obtain ⟨R1,R2,R4,HB⟩:=Zod w c (fun _=>0);rw [<-Zk] at R1 R2 R4 HB;clear h1 hr;go_enter Tryz.func139,Tryz.ntmps139
 go_wp2_with (refine wpList_load_row rfl 127 _ rfl w.heap.size rfl 127 (arr c) (0,0) _ R1.2 U127 rfl hin ?_)
 refine (hcn _).mono ?_;rintro e w1 ⟨rfl,G1⟩;have S1:=R1.below G1;have S2:=R2.below G1;have S4:=R4.below G1;have B1:=bch HB G1 (nl _);clear R1 R2 R4 HB G1 hcn;have hq:Hid (w.heap.size<w.heap.size+1/\w.heap.size+1<w.heap.size+1+1):=by show _/\_;omega
 generalize w.heap.size+1+1=g4 at *;generalize w.heap.size+1=g2 at *;go_wp2_with fail
 go_loopw [5,6] (fun v i wr=>∃ k:Nat,k<=16/\i=.int .i64 k/\wr.ownsRow (g4+1) 195 17 v ((Cd.in0 c k).map (Cd.tof c fun i=>i)).length (flat ((Cd.in0 c k).map (Cd.tof c fun i=>i)))/\RowAt wr w.heap.size c/\RowAt wr g2 (fun _=>0)/\RowAt wr g4 (fun _=>0)/\Below w.heap.size w wr) (fun _ i _=>20 - (intOf i).toNat)
 case atStart=>exact ⟨0,by omega,rfl,World.ownsRow_nil _ _ _ _,S1,S2,S4,B1⟩
 case round =>
  clear S1 S2 S4 B1;obtain ⟨k,hk,rfl,ho,S1,S2,S4,B1⟩:=hrel;have hl0:=Cd.ZmE c k;by_cases hlt:k<16
  ·have hk1:decide ((k:Int)<16)=true:=by simp;omega
   have hk2:decide (k<16)=true:=by simp;omega
   have hk3:(k:Int)<16:=by omega
   have c1:=S1.cell k hlt;by_cases hc:0<c k
   ·have d1:decide (0<c k)=true:=by simpa using hc
    have HE:Hid ((Cd.in0 c (k+1)).map (Cd.tof c fun i=>i)=(Cd.in0 c k).map (Cd.tof c fun i=>i)++[Cd.tof c (fun i=>i) k]):=by show _=_;rw [Cd.in0,if_pos hc,List.map_append];rfl
    have hll:((Cd.in0 c k).map (Cd.tof c fun i=>i)).length<=16:=by rw [List.length_map];omega
    have HT:Hid (trc (Tr.set ⟨fun _=>false,c k⟩ k true)=trc (Cd.tof c (fun i=>i) k)):=Zhm (fun i _=>by
     simp only [Tr.set,Cd.tof];by_cases e:i=k
     ·subst e;simp
     ·have:¬ (i:Int)=(k:Int):=by omega
      simp [e,this]) rfl
    have T1:=TrAt.new wr ⟨fun _=>false,c k⟩;have hi1:=ZR ⟨fun _=>false,c k⟩;have hi2:=ZR (Tr.set ⟨fun _=>false,c k⟩ k true);have hoA:=fun o=>ho.alloc o
    have hA:∀ o,Below w.heap.size w (wr.alloc o):=fun o=>B1.alloc B1.size o
    have cT:=T1.cellh k hlt;have fT:=T1.frozen k;clear T1;generalize (Cd.in0 c k).map (Cd.tof c fun i=>i)=l at *;generalize c k=ck at *;have T2:Hid ((wr.alloc (.cells ((trc ⟨fun _=>false,ck⟩).setIfInBounds k (.bool true)) 195)).heap[wr.heap.size]?=some (.cells (trc (Tr.set ⟨fun _=>false,ck⟩ k true)) 195 (0,0))):=by show _=_;rw [Zmj _ _ hlt];exact heap_alloc_last wr _
    have hg4:g4<wr.heap.size:=S4.1;go_wp2_with (first | refine wpList_load_row rfl 195 _ rfl wr.heap.size rfl 195 (trc (Tr.set ⟨fun _=>false,ck⟩ k true)) (0,0) _ T2.out U195 rfl hi2 ?_ | refine Zau rfl _ rfl (Tr.set ⟨fun _=>false,ck⟩ k true) rfl ?_ | (at_builtin;go_must (refine Zaq rfl _ _ rfl (g4+1) _ l rfl (hoA _) (Tr.set ⟨fun _=>false,ck⟩ k true) rfl (by omega) (by simp;omega) ?_;intro v' w6 hown' hgrow)) | refine ZbT rfl _ rfl ck rfl ?_ | (refine wpList_store_row rfl 195 _ _ rfl wr.heap.size (trc ⟨fun _=>false,ck⟩) rfl rfl 195 _ (heap_alloc_last wr _) hi1 rfl (ZcW _) ?_;rw [World.setRow_alloc_new]))
    have hne:∀ q,q<=g4->some q ≠ Value.ownBlock u5:=fun q hq9 e=>by have:=(ho.lt q e.symm).1;omega
    have hqq:=hq.out;have bg:=fun q (h:q<=g4)=>ZaQ (w:=wr.alloc (.cells ((trc ⟨fun _=>false,ck⟩).setIfInBounds k (.bool true)) 195)) (g:=q) (by simp;omega) (hne q h) hgrow
    have U1:=(S1.alloc (.cells ((trc ⟨fun _=>false,ck⟩).setIfInBounds k (.bool true)) 195)).block (bg _ (by omega));have U2:=(S2.alloc (.cells ((trc ⟨fun _=>false,ck⟩).setIfInBounds k (.bool true)) 195)).block (bg _ (by omega));have U4:=(S4.alloc (.cells ((trc ⟨fun _=>false,ck⟩).setIfInBounds k (.bool true)) 195)).block (bg _ (nl _));have B6:Below w.heap.size w w6:=((hA _).alloc (hA _).size _).grown hgrow (by have:=B1.size;simp;omega) (fun j hj=>by have:=(ho.lt j hj).1;omega);refine ⟨⟨k+1,by omega,by go_num,?_,U1,U2,U4,B6⟩,by simp [intOf];omega⟩;rw [HE.out,Zbr,ZdM,<-HT.out,<-ZdM,<-Zbr,List.length_append];rw [List.length_append] at hown';exact hown'
   ·have d1:decide (0<c k)=false:=by simpa using hc
    have HE:Hid (Cd.in0 c (k+1)=Cd.in0 c k):=by show _=_;rw [Cd.in0,if_neg hc]
    clear hc;generalize c k=ck at *;go_wp2_with fail
    exact ⟨⟨k+1,by omega,by go_num,by rw [HE.out];exact ho,S1,S2,S4,B1⟩,by simp [intOf];omega⟩
  ·obtain rfl:k=16:=by omega
   obtain ⟨q0,q1,q2⟩:=Cd.Zlz HR.out;have HF:Hid (Cd.Fine ((Cd.in0 c 16).map (Cd.tof c fun i=>i)) (fun _=>0)):=Cd.ZuK HR.out;have hl1:=ho.1;rw [ZdA] at hl1;clear S1 hl0 hin;rcases hcs:Cd.in0 c 16 with _ | ⟨r,_ | ⟨r',rr⟩⟩
   ·have h8:=Hr.out.symm.trans (q0 hcs);simp only [Prod.mk.injEq] at h8;obtain ⟨rfl,rfl⟩:=h8;rw [hcs] at ho;obtain ⟨ad,cap,hv⟩:=Zfv ho;subst hv;clear hcs q0 q1 q2 hl1 HF;go_wp2_with (first | refine wpList_load_row rfl 127 _ rfl g4 rfl 127 (arr fun _=>0) (0,0) _ S4.2 U127 rfl hz ?_ | refine wpList_store_row rfl 127 _ _ rfl g2 (arr fun _=>0) rfl rfl 127 _ S2.2 hz rfl (ZV _) ?_)
    have U2:=S2.setRow (fun _=>0);exact bodyPost_ret (v:=.tuple #[.agg (arr fun _=>0),.int .i64 5]) (ZI Tryz.results139 _ _ g2 127 _ (0,0) _ rfl U2.2 U127 rfl hz _ rfl) rfl ⟨rfl,Zn B1 (nL hq.out.1) _⟩
   ·have h8:=Hr.out.symm.trans (q1 r hcs);simp only [Prod.mk.injEq] at h8;obtain ⟨rfl,rfl⟩:=h8;have hr16:=((Cd.ZaO c 16 r).1 (by rw [hcs];simp)).1;have hlsr:=(Cd.ZjY (c:=c) (fun i hi=>(HR.out i hi).1)).ls (r:=r) (by rw [hcs];simp);rw [hcs] at ho;obtain ⟨g,cap,hv,hg,hgl,hrg⟩:=Zet ho (by simp);subst hv;have rt:=Zbb hrg (i:=0) (by simp);have hls:=fun w=>Zbn (Cd.tof c (fun i=>i) r) w
    rw [hlsr] at hls;have htl:tl (List.map (Cd.tof c fun i=>i) [r]) 0=Cd.tof c (fun i=>i) r:=rfl;rw [htl] at rt;have hi1:=Zb (upd (fun _=>0) r 1);generalize Cd.tof c (fun i=>i) r=t at *;have hrI:(r:Int)<16:=by omega
    clear hcs q0 q1 q2 hl1 HF hlsr htl;go_wp2_with (first | refine ZaF rfl _ rfl g (0*17) rfl t rt ?_)
    refine (hls _).mono ?_;rintro e w2 ⟨rfl,G2⟩;have V2:=S2.below G2;have V4:=S4.below G2;have B2:=bch B1 G2 (nl _);have c4:=V4.cell r hr16;have f4:=V4.frozen r;have X4:=V4.set r 1;have X2:=V2.setFar (q:=g4) (by have:=hq.out;omega) r (.int .i64 1);have B3:=B2.setCell (p:=⟨g4,r,none⟩) (by have:=hq.out;show _<=g4;omega) (.int .i64 1);clear S2 S4 B1 G2 V2 V4 B2;go_wp2_with (first | refine wpList_load_row rfl 127 _ rfl g4 rfl 127 (arr (upd (fun _=>0) r 1)) (0,0) _ X4.2 U127 rfl hi1 ?_ | refine wpList_store_row rfl 127 _ _ rfl g2 (arr (upd (fun _=>0) r 1)) rfl rfl 127 _ X2.2 hi1 (by rw [Zh,Zh]) (ZV _) ?_)
    have U2:=X2.setRow (upd (fun _=>0) r 1);exact bodyPost_ret (v:=.tuple #[.agg (arr (upd (fun _=>0) r 1)),.int .i64 0]) (ZI Tryz.results139 _ _ g2 127 _ (0,0) _ rfl U2.2 U127 rfl hi1 _ rfl) rfl ⟨rfl,Zn B3 (nL hq.out.1) _⟩
   ·have h8:=Hr.out.symm.trans (q2 (by rw [hcs];simp));simp only [Prod.mk.injEq] at h8;obtain ⟨h8,rfl⟩:=h8;have HBo:Hid (Cd.boR 16 ((Cd.in0 c 16).map (Cd.tof c fun i=>i)) (fun _=>0)=r1):=h8.symm;have hlen2:2<=((Cd.in0 c 16).map (Cd.tof c fun i=>i)).length:=by rw [List.length_map,hcs];simp
    have hlen16:=HF.out.len;clear hcs q0 q1 q2 hl1 h8;generalize (Cd.in0 c 16).map (Cd.tof c fun i=>i)=l0 at *;obtain ⟨ad,cap,hv⟩:=Zfv ho;subst hv;have e0:((l0.length:Int) == 0)=false:=by rw [beq_eq_false_iff_ne];omega
    have e1:((l0.length:Int) == 1)=false:=by rw [beq_eq_false_iff_ne];omega
    go_wp2_with fail
    clear e0 e1;have Hlen16:Hid (l0.length<=16):=hlen16;go_loopg [5] 16 (fun n v wr=>∃ (l:List Tr) (L:Nat->Int),wr.ownsRow (g4+1) 195 17 v l.length (flat l)/\RowAt wr g2 (fun _=>0)/\RowAt wr g4 L/\Below w.heap.size w wr/\Hid (Cd.Fine l L/\l.length<=n/\Cd.boR n l L=r1))
    case atStart=>exact ⟨l0,fun _=>0,ho,S2,S4,B1,HF.out,Hlen16.out,HBo.out⟩
    case round =>
     clear ho S2 S4 B1 HF HBo Hlen16 hlen2 hlen16;obtain ⟨l,L,ho,S2,S4,B1,HH⟩:=hrel;by_cases hl:l.length<=1
     ·have hL:L=r1:=by
       have:=HH.out.2.2
       cases gk with
       | zero=>rwa [Cd.boR] at this
       | succ n=>rwa [Cd.boR,if_pos hl] at this
      subst hL;obtain ⟨ad,cap,hv⟩:=Zfv ho;subst hv;have d1:decide ((1:Int)<(l.length:Int))=false:=by simp;omega
      have d1':decide (1<l.length)=false:=by simp;omega
      have hi1:=Zb L;clear hl HH;go_wp2_with (first | refine wpList_load_row rfl 127 _ rfl g4 rfl 127 (arr L) (0,0) _ S4.2 U127 rfl hi1 ?_ | refine wpList_store_row rfl 127 _ _ rfl g2 (arr L) rfl rfl 127 _ S2.2 hi1 (by rw [Zh,Zh]) (ZV _) ?_)
      have U2:=S2.setRow L;exact bodyPost_ret (v:=.tuple #[.agg (arr L),.int .i64 0]) (ZI Tryz.results139 _ _ g2 127 _ (0,0) _ rfl U2.2 U127 rfl hi1 _ rfl) rfl ⟨rfl,Zn B1 (nL hq.out.1) _⟩
     ·obtain ⟨f1,f2,f3,f4,f5,F6⟩:=HH.out.1.two (by omega);have hl16:=HH.out.1.len
      obtain ⟨n,hn⟩:∃ n,gk=n+1:=⟨gk - 1,by have:=HH.out.2.1;omega⟩
      subst hn
      have HBo:Hid (Cd.boR n (Cd.oth (Cd.oth l)++[Cd.mrg (Cd.fst l) (Cd.fst (Cd.oth l))]) (Cd.incr (Cd.mrg (Cd.fst l) (Cd.fst (Cd.oth l))) L)=r1):=by
       have:=HH.out.2.2
       rwa [Cd.boR,if_neg hl] at this
      have HF6:Hid (Cd.Fine (Cd.oth (Cd.oth l)++[Cd.mrg (Cd.fst l) (Cd.fst (Cd.oth l))]) (Cd.incr (Cd.mrg (Cd.fst l) (Cd.fst (Cd.oth l))) L)):=F6
      have HLn:Hid ((Cd.oth (Cd.oth l)++[Cd.mrg (Cd.fst l) (Cd.fst (Cd.oth l))]).length<=n):=by
       have:=HH.out.2.1;show _<=_;rw [List.length_append,List.length_singleton];omega
      have HLow:Hid (∀ i,0<=L i/\L i<=16):=fun i=>by have:=HH.out.1.low i;omega
      obtain ⟨g,cap,hv,hg,hgl,hrg⟩:=Zet ho (by intro e;rw [e] at hl;simp at hl);subst hv;have d1:decide ((1:Int)<(l.length:Int))=true:=by simp;omega
      have d1':decide (1<l.length)=true:=by simp;omega
      have t1:Calls Tryz.prog 170 #[.slice (some ⟨g,0,none⟩) l.length cap] wr fun e w'=>∃ v,e=.returned (.tuple #[.agg (trc (Cd.fst l)),v])/\Below wr.heap.size wr w'/\w'.ownsRow wr.heap.size 195 17 v (Cd.oth l).length (flat (Cd.oth l)):=ZcL l g cap wr (by omega) hl16 hgl hrg
      have t2:∀ g cap w,g<w.heap.size->w.rangeAt g 0 (flat (Cd.oth l))->Calls Tryz.prog 170 #[.slice (some ⟨g,0,none⟩) (Cd.oth l).length cap] w fun e w'=>∃ v,e=.returned (.tuple #[.agg (trc (Cd.fst (Cd.oth l))),v])/\Below w.heap.size w w'/\w'.ownsRow w.heap.size 195 17 v (Cd.oth (Cd.oth l)).length (flat (Cd.oth (Cd.oth l))):=fun g cap w h1 h2=>ZcL (Cd.oth l) g cap w (by omega) (by omega) h1 h2
      have hne1:Hid (Cd.oth l ≠ []):=by intro e;rw [e] at f4;simp at f4;omega
      have Hq4:Hid ((Cd.oth (Cd.oth l)).length<=16):=by show _<=_;omega
      generalize Cd.oth (Cd.oth l)=l2 at *;generalize Cd.fst (Cd.oth l)=tb at *;generalize Cd.oth l=l1 at *;generalize Cd.fst l=ta at *;clear HH F6 hl f4 f5 ho hrg hg;go_wp2_with fail
      refine t1.mono ?_;rintro e w2 ⟨v1,rfl,G2,O2⟩;have V2:=S2.below G2;have V4:=S4.below G2;have B2:=bch B1 G2 (nl _);obtain ⟨g1,cap1,hv,hg1,hg1l,hrg1⟩:=Zet O2 hne1.out;subst hv;have hia:=ZR ta;have X2:=V2.alloc (.cells (trc ta) 195);have X4:=V4.alloc (.cells (trc ta) 195);have A1:=TrAt.new w2 ta;have B3:Below w.heap.size w (w2.alloc (.cells (trc ta) 195)):=B2.alloc B2.size _;have hrg2:=Zci hrg1 ((bR w2.heap.size w2).alloc (nl _) (.cells (trc ta) 195)) hg1l;have hw2s:w2.heap.size+1=(w2.alloc (.cells (trc ta) 195)).heap.size:=by simp
      have HS2:Hid (g4<w2.heap.size/\w2.heap.size<(w2.alloc (.cells (trc ta) 195)).heap.size/\g1<(w2.alloc (.cells (trc ta) 195)).heap.size):=by have:=V4.1;show _/\_/\_;omega
      clear t1 S2 S4 B1 G2 V2 V4 B2 O2 hrg1 hg1 hg1l hgl hw2s;go_wp2_with (refine wpList_store_row rfl 195 _ _ rfl w2.heap.size (trc ta) rfl rfl 195 _ (heap_alloc_last w2 _) hia rfl (ZcW _) ?_;rw [World.setRow_alloc_new])
      generalize w2.alloc (.cells (trc ta) 195)=wa at *;generalize w2.heap.size=ga at *;refine (t2 _ _ _ HS2.out.2.2 hrg2).mono ?_;rintro e w3 ⟨v2,rfl,G3,O3⟩;have Y2:=X2.below G3;have Y4:=X4.below G3;have A2:=A1.below G3;have B4:=bch B3 G3 (nl _)
      have HS3:Hid (g4<ga/\ga<w3.heap.size/\(∀ q,v2.ownBlock=some q->ga<q/\q<w3.heap.size)):=by
       refine ⟨HS2.out.1,A2.1,fun q e=>?_⟩;have h1:=O3.lt q e;have h2:=HS2.out.2.1;exact ⟨by omega,h1.2⟩
      have hs1:(w3.alloc (.cells (trc tb) 195)).heap.size=w3.heap.size+1:=by simp
      have hib:=ZR tb;have hit:=ZR ⟨fun _=>false,ta.w+tb.w⟩;have ca:=(A2.alloc (.cells (trc tb) 195)).cellw;have cb:=(TrAt.new w3 tb).cellw;have Z2:=(Y2.alloc (.cells (trc tb) 195)).alloc (.cells (trc ⟨fun _=>false,ta.w+tb.w⟩) 195);have Z4:=(Y4.alloc (.cells (trc tb) 195)).alloc (.cells (trc ⟨fun _=>false,ta.w+tb.w⟩) 195);have ZA:=(A2.alloc (.cells (trc tb) 195)).alloc (.cells (trc ⟨fun _=>false,ta.w+tb.w⟩) 195);have ZB:=(TrAt.new w3 tb).alloc (.cells (trc ⟨fun _=>false,ta.w+tb.w⟩) 195);have ZT:=TrAt.newN (w:=(w3.alloc (.cells (trc tb) 195))) hs1 ⟨fun _=>false,ta.w+tb.w⟩;have ZO:=ZoI (base:=g4+1) ((O3.alloc (.cells (trc tb) 195)).alloc (.cells (trc ⟨fun _=>false,ta.w+tb.w⟩) 195)) (by have:=HS2.out;omega);have B5:Below w.heap.size w ((w3.alloc (.cells (trc tb) 195)).alloc (.cells (trc ⟨fun _=>false,ta.w+tb.w⟩) 195)):=(B4.alloc B4.size _).alloc (by have:=B4.size;simp;omega) _;have Hs1:Hid ((w3.alloc (.cells (trc tb) 195)).heap.size=w3.heap.size+1):=hs1;clear hs1 X2 X4 A1 B3 t2 hrg2 G3 O3 Y2 Y4 A2 B4;go_wp2_with (first | (refine wpList_store_row rfl 195 _ _ rfl w3.heap.size (trc tb) rfl rfl 195 _ (heap_alloc_last w3 _) hib rfl (ZcW _) ?_;rw [World.setRow_alloc_new]) | refine ZbT rfl _ rfl (ta.w+tb.w) rfl ?_ | (refine wpList_store_row rfl 195 _ _ rfl (w3.heap.size+1) (trc ⟨fun _=>false,ta.w+tb.w⟩) rfl rfl 195 _ (ZoC Hs1.out _) hit rfl (ZcW _) ?_;rw [Zlu Hs1.out]))
      generalize ((w3.alloc (.cells (trc tb) 195)).alloc (.cells (trc ⟨fun _=>false,ta.w+tb.w⟩) 195))=wc at *
      have HG:Hid (g4<ga/\ga<w3.heap.size/\w3.heap.size<w3.heap.size+1/\(∀ q,v2.ownBlock=some q->ga<q/\q<w3.heap.size)):=⟨HS3.out.1,HS3.out.2.1,by omega,HS3.out.2.2⟩
      generalize w3.heap.size+1=gt at *;generalize w3.heap.size=gb at *;clear ca cb HS3 HS2 hne1 Hs1 hib hit hia d1 d1';have ZT0:=ZT.congr (t:=⟨fun j=>decide (j<0) && (ta.h j || tb.h j),ta.w+tb.w⟩) (fun j _=>by simp) rfl;have Z40:=Z4.congr (f':=fun j=>if j<0 then Cd.incr (Cd.mrg ta tb) L j else L j) (fun j _=>by simp);go_loopw [12] (fun i wr=>∃ k:Nat,k<=16/\i=.int .i64 k/\TrAt wr ga ta/\TrAt wr gb tb/\TrAt wr gt ⟨fun j=>decide (j<k) && (ta.h j || tb.h j),ta.w+tb.w⟩/\RowAt wr g4 (fun j=>if j<k then Cd.incr (Cd.mrg ta tb) L j else L j)/\RowAt wr g2 (fun _=>0)/\wr.ownsRow (g4+1) 195 17 v2 l2.length (flat l2)/\Below w.heap.size w wr) (fun i _=>16 - (intOf i).toNat)
      case atStart=>exact ⟨0,by omega,rfl,ZA,ZB,ZT0,Z40,Z2,ZO,B5⟩
      case round =>
       clear ZA ZB ZT ZT0 Z4 Z40 Z2 ZO B5;obtain ⟨k,hk,rfl,TA,TB,TT,S4,S2,hO,Bl⟩:=hrel;by_cases hlt:k<16
       ·have hk1:decide ((k:Int)<16)=true:=by simp;omega
        have hk2:decide (k<16)=true:=by simp;omega
        have hk3:(k:Int)<16:=by omega
        have ca:=TA.cellh k hlt;have cb:=TB.cellh k hlt;have ct:=TT.cellh k hlt;have ft:=TT.frozen k
        cases ha:ta.h k with
        | true =>
         have hm:(ta.h k || tb.h k)=true:=by rw [ha];rfl
         rw [ha] at ca;clear ha;have cg:(wr.setCell ⟨gt,k,none⟩ (.bool true)).cell? ⟨g4,k,none⟩=some (.int .i64 (L k)):=by rw [(S4.setFar (q:=gt) (by have:=HG.out;omega) k (.bool true)).cell k hlt];simp
         have fg:=(S4.setFar (q:=gt) (by have:=HG.out;omega) k (.bool true)).frozen k;have HLk:=HLow.out k;have hL0:0<=L k:=HLk.1;have hL1:L k<=16:=HLk.2;have P2:=(S2.setFar (q:=gt) (by have:=HG.out;have:=hq.out;omega) k (.bool true)).setFar (q:=g4) (by have:=hq.out;omega) k (.int .i64 (L k+1));have P4:=((S4.setFar (q:=gt) (by have:=HG.out;omega) k (.bool true)).set k (L k+1)).congr (f':=fun j=>if j<k+1 then Cd.incr (Cd.mrg ta tb) L j else L j) (fun j _=>ZiW hm);have PA:=(TA.setFar (q:=gt) (by have:=HG.out;omega) k (.bool true)).setFar (q:=g4) (by have:=HG.out;omega) k (.int .i64 (L k+1));have PB:=(TB.setFar (q:=gt) (by have:=HG.out;omega) k (.bool true)).setFar (q:=g4) (by have:=HG.out;omega) k (.int .i64 (L k+1));have PT:=((TT.set k hlt true).setFar (q:=g4) (by have:=HG.out;omega) k (.int .i64 (L k+1))).congr (t:=⟨fun j=>decide (j<k+1) && (ta.h j || tb.h j),ta.w+tb.w⟩) (fun j _=>ZfZ hm.symm) rfl;have PO:=Zbd (k:=k) (x:=.int .i64 (L k+1)) (Zbd (g:=gt) (k:=k) (x:=.bool true) hO (fun e=>by have:=HG.out.2.2.2 _ e;have:=HG.out;omega)) (g:=g4) (fun e=>by have:=HG.out.2.2.2 _ e;have:=HG.out;omega);have PB1:=(Bl.setCell (p:=⟨gt,k,none⟩) (by have:=HG.out;have:=hq.out;show _<=gt;omega) (.bool true)).setCell (p:=⟨g4,k,none⟩) (by have:=hq.out;show _<=g4;omega) (.int .i64 (L k+1));clear TA TB TT S2 S4 hO Bl hm;generalize L k=Lk at *;go_wp2_with fail
         go_roundw
         case rel=>exact ⟨k+1,by omega,by go_num,PA,PB,PT,P4,P2,PO,PB1⟩
         case measure=>simp [intOf];omega
        | false =>
         cases hb:tb.h k with
         | true =>
          have hm:(ta.h k || tb.h k)=true:=by rw [hb];simp
          rw [ha] at ca;rw [hb] at cb;clear ha hb;have cg:(wr.setCell ⟨gt,k,none⟩ (.bool true)).cell? ⟨g4,k,none⟩=some (.int .i64 (L k)):=by rw [(S4.setFar (q:=gt) (by have:=HG.out;omega) k (.bool true)).cell k hlt];simp
          have fg:=(S4.setFar (q:=gt) (by have:=HG.out;omega) k (.bool true)).frozen k;have HLk:=HLow.out k;have hL0:0<=L k:=HLk.1;have hL1:L k<=16:=HLk.2;have P2:=(S2.setFar (q:=gt) (by have:=HG.out;have:=hq.out;omega) k (.bool true)).setFar (q:=g4) (by have:=hq.out;omega) k (.int .i64 (L k+1));have P4:=((S4.setFar (q:=gt) (by have:=HG.out;omega) k (.bool true)).set k (L k+1)).congr (f':=fun j=>if j<k+1 then Cd.incr (Cd.mrg ta tb) L j else L j) (fun j _=>ZiW hm);have PA:=(TA.setFar (q:=gt) (by have:=HG.out;omega) k (.bool true)).setFar (q:=g4) (by have:=HG.out;omega) k (.int .i64 (L k+1));have PB:=(TB.setFar (q:=gt) (by have:=HG.out;omega) k (.bool true)).setFar (q:=g4) (by have:=HG.out;omega) k (.int .i64 (L k+1));have PT:=((TT.set k hlt true).setFar (q:=g4) (by have:=HG.out;omega) k (.int .i64 (L k+1))).congr (t:=⟨fun j=>decide (j<k+1) && (ta.h j || tb.h j),ta.w+tb.w⟩) (fun j _=>ZfZ hm.symm) rfl;have PO:=Zbd (k:=k) (x:=.int .i64 (L k+1)) (Zbd (g:=gt) (k:=k) (x:=.bool true) hO (fun e=>by have:=HG.out.2.2.2 _ e;have:=HG.out;omega)) (g:=g4) (fun e=>by have:=HG.out.2.2.2 _ e;have:=HG.out;omega);have PB1:=(Bl.setCell (p:=⟨gt,k,none⟩) (by have:=HG.out;have:=hq.out;show _<=gt;omega) (.bool true)).setCell (p:=⟨g4,k,none⟩) (by have:=hq.out;show _<=g4;omega) (.int .i64 (L k+1));clear TA TB TT S2 S4 hO Bl hm;generalize L k=Lk at *;go_wp2_with fail
          go_roundw
          case rel=>exact ⟨k+1,by omega,by go_num,PA,PB,PT,P4,P2,PO,PB1⟩
          case measure=>simp [intOf];omega
         | false =>
          have hm:(ta.h k || tb.h k)=false:=by rw [ha,hb];rfl
          rw [ha] at ca;rw [hb] at cb;have P2:=S2.setFar (q:=gt) (by have:=HG.out;have:=hq.out;omega) k (.bool false);have P4:=(S4.setFar (q:=gt) (by have:=HG.out;omega) k (.bool false)).congr (f':=fun j=>if j<k+1 then Cd.incr (Cd.mrg ta tb) L j else L j) (fun j _=>ZsA hm);have PA:=TA.setFar (q:=gt) (by have:=HG.out;omega) k (.bool false);have PB:=TB.setFar (q:=gt) (by have:=HG.out;omega) k (.bool false);have PT:=(TT.set k hlt false).congr (t:=⟨fun j=>decide (j<k+1) && (ta.h j || tb.h j),ta.w+tb.w⟩) (fun j _=>ZfZ hm.symm) rfl;have PO:=Zbd (k:=k) (x:=.bool false) hO (g:=gt) (fun e=>by have:=HG.out.2.2.2 _ e;have:=HG.out;omega);have PB1:=Bl.setCell (p:=⟨gt,k,none⟩) (by have:=HG.out;have:=hq.out;show _<=gt;omega) (.bool false);clear TA TB TT S2 S4 hO Bl hm ha hb;go_wp2_with fail
          go_roundw
          case rel=>exact ⟨k+1,by omega,by go_num,PA,PB,PT,P4,P2,PO,PB1⟩
          case measure=>simp [intOf];omega
       ·obtain rfl:k=16:=by omega
        have TM:=TT.congr (t:=Cd.mrg ta tb) (fun j hj=>by simp [Cd.mrg,hj]) rfl;have SM:=S4.congr (f':=Cd.incr (Cd.mrg ta tb) L) (fun j hj=>by rw [if_pos hj]);have him:=ZR (Cd.mrg ta tb);have hg4:g4<wr.heap.size:=S4.1;have hl2:=Hq4.out;generalize Cd.incr (Cd.mrg ta tb) L=L' at *;generalize Cd.mrg ta tb=tm at *;clear TA TB TT S4;go_wp2_with (first | refine wpList_load_row rfl 195 _ rfl gt rfl 195 (trc tm) (0,0) _ TM.2 U195 rfl him ?_ | refine Zau rfl _ rfl tm rfl ?_ | (at_builtin;go_must (refine Zaq rfl _ _ rfl (g4+1) _ l2 rfl hO tm rfl (by omega) (by omega) ?_;intro v' w6 hown' hgrow)))
        have hne:∀ q,q<=g4->some q ≠ Value.ownBlock v2:=fun q hq9 e=>by have:=(hO.lt q e.symm).1;omega
        have U2:=S2.block (ZaQ S2.1 (hne _ (nL hq.out.2)) hgrow);have U4:=SM.block (ZaQ hg4 (hne _ (nl _)) hgrow);have B6:Below w.heap.size w w6:=(Bl.alloc Bl.size _).grown hgrow (by have:=Bl.size;simp;omega) (fun j hj=>by have:=(hO.lt j hj).1;have:=hq.out;omega);go_roundg n
        case measure=>omega
        case rel=>exact ⟨l2++[tm],L',hown',U2,U4,B6,HF6.out,HLn.out,HBo.out⟩
theorem ZhD (c:Nat->Int) (w:World) :
 Calls Tryz.prog 139 #[.agg (arr c)] w fun e w'=>e=.returned (.tuple #[.agg (arr (Cd.bld c).1),.int .i64 (Cd.bld c).2])/\Below w.heap.size w w':=by
 by_cases h:Cd.InR c 2048 16
 ·exact ZkB c w h
 ·have e:Cd.bld c=(fun _=>0,3):=by rw [Cd.bld,if_pos h]
  rw [e];exact Zgf c w h
set_option linter.unusedVariables false
theorem Zql (l:List UInt8) (x:Int):(⟨(2 :: l).toArray⟩:ByteArray)++⟨#[UInt8.ofNat x.toNat]⟩=⟨(2 :: (l++[UInt8.ofNat x.toNat])).toArray⟩:=by
 rw [show (⟨#[UInt8.ofNat x.toNat]⟩:ByteArray)=⟨([UInt8.ofNat x.toNat]).toArray⟩ from rfl,Nm.ZiU];rfl
theorem ZpS (L:Nat->Int) (n:ByteArray) (w:ByteArray):(⟨(2 :: Bk.jnK L 8).toArray⟩:ByteArray)++n++w=(⟨#[2]⟩:ByteArray)++((⟨(Bk.jn L).toArray⟩:ByteArray)++n++w):=by
 apply Nm.ZF;simp [Bk.jn]
theorem ZaZ (s:ByteArray) (w:World) (hs:s.size<=1024) :
 Calls Tryz.prog 108 #[.string s] w fun e w'=>e=.returned (.string ((⟨#[2]⟩:ByteArray)++Bk.enc s))/\Below w.heap.size w w':=by
 have c1:=fun w=>Zga s w hs
 have c2:=fun w=>ZhD (Bk.hv s) w
 have c3:=fun w=>Zam s.size (s.size:Int) w (by omega) (by omega) (by omega)
 rw [Int.toNat_natCast] at c3;have c4:=fun w=>ZcP (Cd.bld (Bk.hv s)).1 s w (by omega)
 have HE:Hid ((⟨(2 :: Bk.jnK (Cd.bld (Bk.hv s)).1 8).toArray⟩:ByteArray)++⟨(Nm.nb s.size).toArray⟩++(Cd.wrt (Cd.bld (Bk.hv s)).1 s).1=(⟨#[2]⟩:ByteArray)++Bk.enc s):=ZpS _ _ _
 have z2:(⟨(Nm.nb s.size).toArray⟩:ByteArray).size<=5:=by
  have:=Nm.ZD s.size (by omega);show (Nm.nb s.size).toArray.size<=_;simpa using this
 have z3:=ZjW (Cd.bld (Bk.hv s)).1 s;have HR:Hid (Cd.InR (Cd.bld (Bk.hv s)).1 15 16):=Bk.ZnG (Bk.ZnQ s hs);have hiL:=Zb (Cd.bld (Bk.hv s)).1;have hb0:(s.size:Int)<=1024:=by omega
 generalize (⟨#[2]⟩:ByteArray)++Bk.enc s=R at *;generalize (Cd.wrt (Cd.bld (Bk.hv s)).1 s).1=W at *;generalize (Cd.wrt (Cd.bld (Bk.hv s)).1 s).2=We at *;generalize (⟨(Nm.nb s.size).toArray⟩:ByteArray)=N at *;generalize (Cd.bld (Bk.hv s)).1=f at *;generalize (Cd.bld (Bk.hv s)).2=E at *;generalize Bk.hv s=C at *;go_enter Tryz.func108,Tryz.ntmps108
 go_wp2_with fail
 refine (c1 _).mono ?_;rintro e w1 ⟨rfl,G1⟩;go_wp2_with fail
 refine (c2 _).mono ?_;rintro e w2 ⟨rfl,G2⟩;have B2:=bch G1 G2 (nl _);have L3:=RowAt.new w2 f;have B3:Below w.heap.size w (w2.alloc (.cells (arr f) 127)):=B2.alloc B2.size _;have hgl:w.heap.size<=w2.heap.size:=B2.size;clear G1 G2 B2 c1 c2;go_wp2_with (refine wpList_store_row rfl 127 _ _ rfl w2.heap.size (arr f) rfl rfl 127 _ (heap_alloc_last w2 _) hiL rfl (ZV _) ?_;rw [World.setRow_alloc_new])
 generalize w2.alloc (.cells (arr f) 127)=wa at *;generalize w2.heap.size=gl at *;go_loopw [5,6] (fun v i wr=>∃ k:Nat,k<=8/\i=.int .i64 k/\v=.string ⟨(2 :: Bk.jnK f k).toArray⟩/\RowAt wr gl f/\Below w.heap.size w wr) (fun _ i _=>8 - (intOf i).toNat)
 case atStart=>exact ⟨0,by omega,rfl,rfl,L3,B3⟩
 case round =>
  clear L3 B3;obtain ⟨k,hk,rfl,rfl,R1,B1⟩:=hrel;by_cases hlt:k<8
  ·have hk1:decide ((k:Int)<8)=true:=by simp;omega
   have hk2:decide (k<8)=true:=by simp;omega
   obtain ⟨K2,hK2e⟩:∃ K2,2*k=K2:=⟨_,rfl⟩
   obtain ⟨K3,hK3e⟩:∃ K3,2*k+1=K3:=⟨_,rfl⟩
   have hK2:K2<16:=by omega
   have hK3:K3<16:=by omega
   have m2:2*(k:Int)=(K2:Int):=by omega
   have m3:(K2:Int)+1=(K3:Int):=by omega
   have hK2i:(K2:Int)<16:=by omega
   have hK3i:(K3:Int)<16:=by omega
   have HN:=Bk.Zje f k;rw [hK3e,hK2e] at HN;have c9:=R1.cell K2 hK2;have c8:=R1.cell K3 hK3;have hx:=HR.out K2 hK2;have hy:=HR.out K3 hK3;have HNN:Hid (Bk.jnK f (k+1)=Bk.jnK f k++[UInt8.ofNat (16*f K2+f K3).toNat]):=by rw [Int.mul_comm];exact HN
   have hlen:(⟨(2 :: Bk.jnK f k).toArray⟩:ByteArray).size<=100:=by
    show (2 :: Bk.jnK f k).toArray.size<=_;simp [Bk.ZcY];omega
   have HS:Hid (∀ x:Int,(⟨(2 :: Bk.jnK f k).toArray⟩:ByteArray)++⟨#[UInt8.ofNat x.toNat]⟩=⟨(2 :: (Bk.jnK f k++[UInt8.ofNat x.toNat])).toArray⟩):=Zql (Bk.jnK f k);clear HN hK2e hK3e;generalize f K2=x at *;generalize f K3=y at *;generalize hJ:(⟨(2 :: Bk.jnK f k).toArray⟩:ByteArray)=J at *;clear hJ;obtain ⟨hx0,hx1⟩:=hx;obtain ⟨hy0,hy1⟩:=hy;have hcv:=Zba (16*x+y) (by omega) (by omega);have w1:IntKind.i64.wrap (16*x)=16*x:=IntWalk.i64_in _ ⟨by omega,by omega⟩;have w2:IntKind.i64.wrap (16*x+y)=16*x+y:=IntWalk.i64_in _ ⟨by omega,by omega⟩;have w3:IntKind.u8.wrap (16*x+y)=16*x+y:=IntWalk.u8_in _ ⟨by omega,by omega⟩;have w4:IntKind.i64.wrap (K2:Int)=(K2:Int):=IntWalk.i64_in _ ⟨by omega,by omega⟩;have w5:IntKind.i64.wrap (K3:Int)=(K3:Int):=IntWalk.i64_in _ ⟨by omega,by omega⟩;have hgw:=R1.1;have X1:RowAt (wr.drew.alloc (.cells #[.int .u8 (16*x+y)] 5)) gl f:=(show RowAt wr.drew gl f from R1).alloc _;have X2:Below w.heap.size w (wr.drew.alloc (.cells #[.int .u8 (16*x+y)] 5)):=(show Below w.heap.size w wr.drew from B1.drew).alloc B1.size _;clear R1 B1;go_wp2_with fail
   go_region
   go_wp2_with fail
   go_roundw
   case rel=>exact ⟨k+1,by omega,by go_num,by rw [HNN.out,<-HS.out],X1,X2⟩
   case measure=>simp [intOf];omega
  ·obtain rfl:k=8:=by omega
   have hk1:decide ((8:Int)<8)=false:=by decide
   have hlen:(⟨(2 :: Bk.jnK f 8).toArray⟩:ByteArray).size<=100:=by
    show (2 :: Bk.jnK f 8).toArray.size<=_;simp [Bk.ZcY]
   generalize (⟨(2 :: Bk.jnK f 8).toArray⟩:ByteArray)=J at *;go_wp2_with (refine wpList_load_row rfl 127 _ rfl gl rfl 127 (arr f) (0,0) _ R1.2 U127 rfl hiL ?_)
   refine (c4 _).mono ?_;rintro e w4 ⟨rfl,G4⟩;have B5:=bch B1 G4 (nl _);clear B1 G4 c4 R1;go_wp2_with fail
   refine (c3 _).mono ?_;rintro e w5 ⟨rfl,G5⟩;have B6:=bch B5 G5 (nl _);clear B5 G5 c3;go_wp2_with fail
   go_ret
   exact ⟨congrArg (fun s=>Ending.returned (Value.string s)) HE.out,B6⟩
end Go.Proofs.YtbjbjbpgmojcbacGreat
