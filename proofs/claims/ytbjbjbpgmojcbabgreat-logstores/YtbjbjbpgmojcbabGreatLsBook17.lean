/- A part of the proof: what it leans on. -/
import Derived.Test.YtbjbjbpgmojcbabGreatLsBook01
import Derived.Deep.RegionHeld3
import Derived.Test.YtbjbjbpgmojcbabGreatLsBook06
import Derived.Test.YtbjbjbpgmojcbabGreatLsBook09
import Derived.Test.YtbjbjbpgmojcbabGreatLsBook10
import Derived.Test.YtbjbjbpgmojcbabGreatLsBook14
import Derived.Test.YtbjbjbpgmojcbabGreatLsBook16
set_option maxRecDepth 4000
set_option maxHeartbeats 4000000
namespace Go.Proofs.YtbjbjbpgmojcbabGreat
open Go.RowKit
theorem ZbY {ops:Array Oper} {rest:List Oper} {o:Oper} {a:Act} {w:World} {Q:Exit->Act->World->Prop} (hg:o.guard=none) (x:Operand) (ho:o.op=.build 205 #[(1,x)]) (c:Int) (hx:a.eval x=.int .i64 c)
 (h:wpList Tryz.prog ops Q rest (a.put o.dst (.agg (trc ⟨fun _=>false,c⟩))) w):wpList Tryz.prog ops Q (o :: rest) a w:=by
 have hb:Tryz.prog.built 205 [(1,.int .i64 c)]=some (trc ⟨fun _=>false,c⟩):=by kernel_rfl
 have he:((#[(1,x)]:Array (Nat × Operand)).map fun (i,x)=>(i,a.eval x)).toList=[(1,.int .i64 c)]:=by
  simp only [List.map_toArray,List.map_cons,List.map_nil,hx]
 refine wpList_build hg 205 _ ho ?_ ?_
 ·rw [he,hb];rfl
 ·rw [he,hb];exact h
def Tr.set (t:Tr) (k:Nat) (b:Bool):Tr:=⟨fun j=>if j=k then b else t.h j,t.w⟩
theorem Znt (t:Tr) (k:Nat) (hk:k<16) (b:Bool):(trc t).setIfInBounds k (.bool b)=trc (t.set k b):=by
 apply Array.ext_getElem?;intro i;rw [Array.getElem?_setIfInBounds,Zal];by_cases hi:i<16
 ·rw [Zsn _ i hi,Zsn _ i hi];by_cases e:k=i
  ·subst e;rw [if_pos rfl,if_pos (by omega)];simp [Tr.set]
  ·rw [if_neg e];have e':¬ i=k:=fun h=>e h.symm
   simp [Tr.set,e']
 ·rw [if_neg (by omega)];by_cases h16:i=16
  ·subst h16;rw [Zsb,Zsb];rfl
  ·rw [Array.getElem?_eq_none (by rw [Zal];omega),Array.getElem?_eq_none (by rw [Zal];omega)]
theorem TrAt.set {w:World} {g:Nat} {t:Tr} (H:TrAt w g t) (k:Nat) (hk:k<16) (b:Bool):TrAt (w.setCell ⟨g,k,none⟩ (.bool b)) g (t.set k b):=by
 refine ⟨by have:=H.1;simpa [World.setCell] using this,?_⟩;rw [Zcv H.2,Znt t k hk]
theorem TrAt.setFar {w:World} {g:Nat} {t:Tr} (H:TrAt w g t) {q:Nat} (hq:q ≠ g) (k:Nat) (v:Value):TrAt (w.setCell ⟨q,k,none⟩ v) g t:=by
 refine ⟨by have:=H.1;simpa [World.setCell] using this,?_⟩;rw [ZcB hq];exact H.2
theorem TrAt.congr {w:World} {g:Nat} {s t:Tr} (H:TrAt w g s) (h:∀ i,i<16->s.h i=t.h i) (hw:s.w=t.w):TrAt w g t:=⟨H.1,by rw [H.2,ZhT h hw]⟩
theorem RowAt.block {w w':World} {g:Nat} {f:Nat->Int} (H:RowAt w g f) (he:w'.heap[g]?=w.heap[g]?):RowAt w' g f:=by
 have h2:=he.trans H.2;exact ⟨(Array.getElem?_eq_some_iff.1 h2).1,h2⟩
theorem Zbi {w:World} {base g k:Nat} {x:Value} {t:TypeId} {sz n:Nat} {v:Value} {cs:List Value} (ho:w.ownsRow base t sz v n cs) (hne:v.ownBlock ≠ some g):(w.setCell ⟨g,k,none⟩ x).ownsRow base t sz v n cs:=by
 refine ⟨ho.1,?_⟩;rcases ho.2 with h0 | ⟨q,cap,cur,rfl,e1,e2,e3⟩
 ·exact .inl h0
 ·refine .inr ⟨q,cap,cur,rfl,e1,?_,e3⟩;rw [ZcB (fun e=>hne (by rw [e];rfl))];exact e2
theorem Zfw {a b:Nat->Bool} {k j:Nat} {x:Bool} {W:Int} (h:x=(a k || b k)):(Tr.set ⟨fun j=>decide (j<k) && (a j || b j),W⟩ k x).h j=(decide (j<k+1) && (a j || b j)):=by
 simp only [Tr.set];by_cases e:j=k
 ·subst e;rw [if_pos rfl,h];simp
 ·rw [if_neg e];by_cases h1:j<k
  ·simp [h1,show j<k+1 by omega]
  ·simp [h1,show ¬ j<k+1 by omega]
theorem Zkt {ta tb:Tr} {L:Nat->Int} {k j:Nat} (h:(ta.h k || tb.h k)=true):upd (fun j=>if j<k then Cd.incr (Cd.mrg ta tb) L j else L j) k (L k+1) j=if j<k+1 then Cd.incr (Cd.mrg ta tb) L j else L j:=by
 unfold upd;by_cases e:j=k
 ·subst e;rw [if_pos rfl,if_pos (by omega),Cd.incr,if_pos (by simpa [Cd.mrg] using h)]
 ·rw [if_neg e];simp only;by_cases h1:j<k
  ·rw [if_pos h1,if_pos (by omega)]
  ·rw [if_neg h1,if_neg (by omega)]
theorem Zsv {ta tb:Tr} {L:Nat->Int} {k j:Nat} (h:(ta.h k || tb.h k)=false):(if j<k then Cd.incr (Cd.mrg ta tb) L j else L j)=if j<k+1 then Cd.incr (Cd.mrg ta tb) L j else L j:=by
 by_cases e:j=k
 ·subst e;rw [if_neg (by omega),if_pos (by omega),Cd.incr,if_neg (by simp only [Cd.mrg,h];simp)]
 ·by_cases h1:j<k
  ·rw [if_pos h1,if_pos (by omega)]
  ·rw [if_neg h1,if_neg (by omega)]
theorem Zld {w:World} {N:Nat} (h:w.heap.size=N) (c c':Array Value) (t:TypeId):(w.alloc (.cells c t)).setRow N c'=w.alloc (.cells c' t):=by subst h;exact World.setRow_alloc_new w c c' t
theorem ZpC {w:World} {N:Nat} (h:w.heap.size=N) (o:Obj):(w.alloc o).heap[N]?=some o:=by subst h;exact heap_alloc_last w o
theorem TrAt.newN {w:World} {N:Nat} (h:w.heap.size=N) (t:Tr):TrAt (w.alloc (.cells (trc t) 205)) N t:=by subst h;exact TrAt.new w t
theorem ZfZ {w:World} {base:Nat} {t:TypeId} {sz n:Nat} {v:Value} {cs:List Value} (ho:w.ownsRow base t sz v n cs):∃ ad cap,v=.slice ad n cap:=by
 rcases ho.2 with ⟨h,h0⟩ | ⟨q,cap,cur,h,_⟩
 ·exact ⟨none,0,by rw [h,h0]⟩
 ·exact ⟨_,cap,h⟩
theorem ZpM {w:World} {base base':Nat} {t:TypeId} {sz n:Nat} {v:Value} {cs:List Value} (ho:w.ownsRow base' t sz v n cs) (h:base<=base'):w.ownsRow base t sz v n cs:=by
 refine ⟨ho.1,?_⟩;rcases ho.2 with h0 | ⟨q,cap,cur,rfl,e1,e2,e3⟩
 ·exact .inl h0
 ·exact .inr ⟨q,cap,cur,rfl,by omega,e2,e3⟩
theorem ZfM (c:Nat->Int) (w:World) (h1:¬ Cd.InR c 2048 16) :
 Calls Tryz.prog 166 #[.agg (arr c)] w fun e w'=>e=.returned (.tuple #[.agg (arr (fun _=>0)),.int .i64 3])/\Below w.heap.size w w':=by
 have hcn:=fun w=>Zca c w
 rw [dF h1] at hcn;have hin:=Zc c;have hz:=Zc (fun _=>0);obtain ⟨R1,R2,R4,HB⟩:=Znz w c (fun _=>0);rw [<-Zm] at R1 R2 R4 HB;clear h1;go_enter Tryz.func166,Tryz.ntmps166
 go_wp2_with (refine wpList_load_row rfl 127 _ rfl w.heap.size rfl 127 (arr c) (0,0) _ R1.2 Tryz.underlying127 rfl hin ?_)
 refine (hcn _).mono ?_;rintro e w1 ⟨rfl,G1⟩;have S2:=R2.below G1;have S4:=R4.below G1;have B1:=bch HB G1 (nl _);clear R1 R2 R4 HB G1 hcn;go_wp2_with (first | refine wpList_load_row rfl 127 _ rfl (w.heap.size+1+1) rfl 127 (arr fun _=>0) (0,0) _ S4.2 Tryz.underlying127 rfl hz ?_ | refine wpList_store_row rfl 127 _ _ rfl (w.heap.size+1) (arr fun _=>0) rfl rfl 127 _ S2.2 hz rfl (ZW _) ?_)
 have U2:=S2.setRow (fun _=>0);exact bodyPost_ret (v:=.tuple #[.agg (arr fun _=>0),.int .i64 3]) (ZK Tryz.results166 _ _ (w.heap.size+1) 127 _ (0,0) _ rfl U2.2 Tryz.underlying127 rfl hz _ rfl) rfl ⟨rfl,Zq B1 (Nat.le_succ _) _⟩
theorem ZlW (c:Nat->Int) (w:World) (h1:Cd.InR c 2048 16) :
 Calls Tryz.prog 166 #[.agg (arr c)] w fun e w'=>e=.returned (.tuple #[.agg (arr (Cd.bld c).1),.int .i64 (Cd.bld c).2])/\Below w.heap.size w w':=by
 have hcn:=fun w=>Zca c w
 rw [zdT h1] at hcn;have hin:=Zc c;have hz:=Zc (fun _=>0);have HR:Hid (Cd.InR c 2048 16):=h1
 obtain ⟨r1,r2,hr⟩:∃ r1 r2,Cd.bld c=(r1,r2):=⟨_,_,rfl⟩
 rw [hr];have Hr:Hid (Cd.bld c=(r1,r2)):=hr;obtain ⟨R1,R2,R4,HB⟩:=Znz w c (fun _=>0);rw [<-Zm] at R1 R2 R4 HB;clear h1 hr;go_enter Tryz.func166,Tryz.ntmps166
 go_wp2_with (refine wpList_load_row rfl 127 _ rfl w.heap.size rfl 127 (arr c) (0,0) _ R1.2 Tryz.underlying127 rfl hin ?_)
 refine (hcn _).mono ?_;rintro e w1 ⟨rfl,G1⟩;have S1:=R1.below G1;have S2:=R2.below G1;have S4:=R4.below G1;have B1:=bch HB G1 (nl _);clear R1 R2 R4 HB G1 hcn;have hq:Hid (w.heap.size<w.heap.size+1/\w.heap.size+1<w.heap.size+1+1):=by show _/\_;omega
 generalize w.heap.size+1+1=g4 at *;generalize w.heap.size+1=g2 at *;go_wp2_with fail
 go_loopw [5,6] (fun v i wr=>∃ k:Nat,k<=16/\i=.int .i64 k/\wr.ownsRow (g4+1) 205 17 v ((Cd.in0 c k).map (Cd.tof c fun i=>i)).length (flat ((Cd.in0 c k).map (Cd.tof c fun i=>i)))/\RowAt wr w.heap.size c/\RowAt wr g2 (fun _=>0)/\RowAt wr g4 (fun _=>0)/\Below w.heap.size w wr) (fun _ i _=>20 - (intOf i).toNat)
 case atStart=>exact ⟨0,by omega,rfl,World.ownsRow_nil _ _ _ _,S1,S2,S4,B1⟩
 case round =>
  clear S1 S2 S4 B1;obtain ⟨k,hk,rfl,ho,S1,S2,S4,B1⟩:=hrel;have hl0:=Cd.ZmW c k;by_cases hlt:k<16
  ·have hk1:decide ((k:Int)<16)=true:=by simp;omega
   have hk2:decide (k<16)=true:=by simp;omega
   have hk3:(k:Int)<16:=by omega
   have c1:=S1.cell k hlt;by_cases hc:0<c k
   ·have d1:decide (0<c k)=true:=by simpa using hc
    have HE:Hid ((Cd.in0 c (k+1)).map (Cd.tof c fun i=>i)=(Cd.in0 c k).map (Cd.tof c fun i=>i)++[Cd.tof c (fun i=>i) k]):=by show _=_;rw [Cd.in0,if_pos hc,List.map_append];rfl
    have hll:((Cd.in0 c k).map (Cd.tof c fun i=>i)).length<=16:=by rw [List.length_map];omega
    have HT:Hid (trc (Tr.set ⟨fun _=>false,c k⟩ k true)=trc (Cd.tof c (fun i=>i) k)):=ZhT (fun i _=>by
     simp only [Tr.set,Cd.tof];by_cases e:i=k
     ·subst e;simp
     ·have:¬ (i:Int)=(k:Int):=by omega
      simp [e,this]) rfl
    have T1:=TrAt.new wr ⟨fun _=>false,c k⟩;have hi1:=ZU ⟨fun _=>false,c k⟩;have hi2:=ZU (Tr.set ⟨fun _=>false,c k⟩ k true);have hoA:=fun o=>ho.alloc o
    have hA:∀ o,Below w.heap.size w (wr.alloc o):=fun o=>B1.alloc B1.size o
    have cT:=T1.cellh k hlt;have fT:=T1.frozen k;clear T1;generalize (Cd.in0 c k).map (Cd.tof c fun i=>i)=l at *;generalize c k=ck at *;have T2:Hid ((wr.alloc (.cells ((trc ⟨fun _=>false,ck⟩).setIfInBounds k (.bool true)) 205)).heap[wr.heap.size]?=some (.cells (trc (Tr.set ⟨fun _=>false,ck⟩ k true)) 205 (0,0))):=by show _=_;rw [Znt _ _ hlt];exact heap_alloc_last wr _
    have hg4:g4<wr.heap.size:=S4.1;go_wp2_with (first | refine wpList_load_row rfl 205 _ rfl wr.heap.size rfl 205 (trc (Tr.set ⟨fun _=>false,ck⟩ k true)) (0,0) _ T2.out Tryz.underlying205 rfl hi2 ?_ | refine Zav rfl _ rfl (Tr.set ⟨fun _=>false,ck⟩ k true) rfl ?_ | (at_builtin;go_must (refine Zar rfl _ _ rfl (g4+1) _ l rfl (hoA _) (Tr.set ⟨fun _=>false,ck⟩ k true) rfl (by omega) (by simp;omega) ?_;intro v' w6 hown' hgrow)) | refine ZbY rfl _ rfl ck rfl ?_ | (refine wpList_store_row rfl 205 _ _ rfl wr.heap.size (trc ⟨fun _=>false,ck⟩) rfl rfl 205 _ (heap_alloc_last wr _) hi1 rfl (Zdx _) ?_;rw [World.setRow_alloc_new]))
    have hne:∀ q,q<=g4->some q ≠ Value.ownBlock u5:=fun q hq9 e=>by have:=(ho.lt q e.symm).1;omega
    have hqq:=hq.out;have bg:=fun q (h:q<=g4)=>ZaV (w:=wr.alloc (.cells ((trc ⟨fun _=>false,ck⟩).setIfInBounds k (.bool true)) 205)) (g:=q) (by simp;omega) (hne q h) hgrow
    have U1:=(S1.alloc (.cells ((trc ⟨fun _=>false,ck⟩).setIfInBounds k (.bool true)) 205)).block (bg _ (by omega));have U2:=(S2.alloc (.cells ((trc ⟨fun _=>false,ck⟩).setIfInBounds k (.bool true)) 205)).block (bg _ (by omega));have U4:=(S4.alloc (.cells ((trc ⟨fun _=>false,ck⟩).setIfInBounds k (.bool true)) 205)).block (bg _ (Nat.le_refl _));have B6:Below w.heap.size w w6:=((hA _).alloc (hA _).size _).grown hgrow (by have:=B1.size;simp;omega) (fun j hj=>by have:=(ho.lt j hj).1;omega);refine ⟨⟨k+1,by omega,by go_num,?_,U1,U2,U4,B6⟩,by simp [intOf];omega⟩;rw [HE.out,ZbP,Zef,<-HT.out,<-Zef,<-ZbP,List.length_append];rw [List.length_append] at hown';exact hown'
   ·have d1:decide (0<c k)=false:=by simpa using hc
    have HE:Hid (Cd.in0 c (k+1)=Cd.in0 c k):=by show _=_;rw [Cd.in0,if_neg hc]
    clear hc;generalize c k=ck at *;go_wp2_with fail
    exact ⟨⟨k+1,by omega,by go_num,by rw [HE.out];exact ho,S1,S2,S4,B1⟩,by simp [intOf];omega⟩
  ·obtain rfl:k=16:=by omega
   obtain ⟨q0,q1,q2⟩:=Cd.ZmU HR.out;have HF:Hid (Cd.Fine ((Cd.in0 c 16).map (Cd.tof c fun i=>i)) (fun _=>0)):=Cd.Zvp HR.out;have hl1:=ho.1;rw [ZdY] at hl1;clear S1 hl0 hin;rcases hcs:Cd.in0 c 16 with _ | ⟨r,_ | ⟨r',rr⟩⟩
   ·have h8:=Hr.out.symm.trans (q0 hcs);simp only [Prod.mk.injEq] at h8;obtain ⟨rfl,rfl⟩:=h8;rw [hcs] at ho;obtain ⟨ad,cap,hv⟩:=ZfZ ho;subst hv;clear hcs q0 q1 q2 hl1 HF;go_wp2_with (first | refine wpList_load_row rfl 127 _ rfl g4 rfl 127 (arr fun _=>0) (0,0) _ S4.2 Tryz.underlying127 rfl hz ?_ | refine wpList_store_row rfl 127 _ _ rfl g2 (arr fun _=>0) rfl rfl 127 _ S2.2 hz rfl (ZW _) ?_)
    have U2:=S2.setRow (fun _=>0);exact bodyPost_ret (v:=.tuple #[.agg (arr fun _=>0),.int .i64 5]) (ZK Tryz.results166 _ _ g2 127 _ (0,0) _ rfl U2.2 Tryz.underlying127 rfl hz _ rfl) rfl ⟨rfl,Zq B1 (Nat.le_of_lt hq.out.1) _⟩
   ·have h8:=Hr.out.symm.trans (q1 r hcs);simp only [Prod.mk.injEq] at h8;obtain ⟨rfl,rfl⟩:=h8;have hr16:=((Cd.ZaU c 16 r).1 (by rw [hcs];simp)).1;have hlsr:=(Cd.ZjP (c:=c) (fun i hi=>(HR.out i hi).1)).ls (r:=r) (by rw [hcs];simp);rw [hcs] at ho;obtain ⟨g,cap,hv,hg,hgl,hrg⟩:=ZeU ho (by simp);subst hv;have rt:=Zbk hrg (i:=0) (by simp);have hls:=fun w=>Zbu (Cd.tof c (fun i=>i) r) w
    rw [hlsr] at hls;have htl:tl (List.map (Cd.tof c fun i=>i) [r]) 0=Cd.tof c (fun i=>i) r:=rfl;rw [htl] at rt;have hi1:=Zc (upd (fun _=>0) r 1);generalize Cd.tof c (fun i=>i) r=t at *;have hrI:(r:Int)<16:=by omega
    clear hcs q0 q1 q2 hl1 HF hlsr htl;go_wp2_with (first | refine ZaG rfl _ rfl g (0*17) rfl t rt ?_)
    refine (hls _).mono ?_;rintro e w2 ⟨rfl,G2⟩;have V2:=S2.below G2;have V4:=S4.below G2;have B2:=bch B1 G2 (nl _);have c4:=V4.cell r hr16;have f4:=V4.frozen r;have X4:=V4.set r 1;have X2:=V2.setFar (q:=g4) (by have:=hq.out;omega) r (.int .i64 1);have B3:=B2.setCell (p:=⟨g4,r,none⟩) (by have:=hq.out;show _<=g4;omega) (.int .i64 1);clear S2 S4 B1 G2 V2 V4 B2;go_wp2_with (first | refine wpList_load_row rfl 127 _ rfl g4 rfl 127 (arr (upd (fun _=>0) r 1)) (0,0) _ X4.2 Tryz.underlying127 rfl hi1 ?_ | refine wpList_store_row rfl 127 _ _ rfl g2 (arr (upd (fun _=>0) r 1)) rfl rfl 127 _ X2.2 hi1 (by rw [Zi,Zi]) (ZW _) ?_)
    have U2:=X2.setRow (upd (fun _=>0) r 1);exact bodyPost_ret (v:=.tuple #[.agg (arr (upd (fun _=>0) r 1)),.int .i64 0]) (ZK Tryz.results166 _ _ g2 127 _ (0,0) _ rfl U2.2 Tryz.underlying127 rfl hi1 _ rfl) rfl ⟨rfl,Zq B3 (Nat.le_of_lt hq.out.1) _⟩
   ·have h8:=Hr.out.symm.trans (q2 (by rw [hcs];simp));simp only [Prod.mk.injEq] at h8;obtain ⟨h8,rfl⟩:=h8;have HBo:Hid (Cd.boR 16 ((Cd.in0 c 16).map (Cd.tof c fun i=>i)) (fun _=>0)=r1):=h8.symm;have hlen2:2<=((Cd.in0 c 16).map (Cd.tof c fun i=>i)).length:=by rw [List.length_map,hcs];simp
    have hlen16:=HF.out.len;clear hcs q0 q1 q2 hl1 h8;generalize (Cd.in0 c 16).map (Cd.tof c fun i=>i)=l0 at *;obtain ⟨ad,cap,hv⟩:=ZfZ ho;subst hv;have e0:((l0.length:Int) == 0)=false:=by rw [beq_eq_false_iff_ne];omega
    have e1:((l0.length:Int) == 1)=false:=by rw [beq_eq_false_iff_ne];omega
    go_wp2_with fail
    clear e0 e1;have Hlen16:Hid (l0.length<=16):=hlen16;go_loopg [5] 16 (fun n v wr=>∃ (l:List Tr) (L:Nat->Int),wr.ownsRow (g4+1) 205 17 v l.length (flat l)/\RowAt wr g2 (fun _=>0)/\RowAt wr g4 L/\Below w.heap.size w wr/\Hid (Cd.Fine l L/\l.length<=n/\Cd.boR n l L=r1))
    case atStart=>exact ⟨l0,fun _=>0,ho,S2,S4,B1,HF.out,Hlen16.out,HBo.out⟩
    case round =>
     clear ho S2 S4 B1 HF HBo Hlen16 hlen2 hlen16;obtain ⟨l,L,ho,S2,S4,B1,HH⟩:=hrel;by_cases hl:l.length<=1
     ·have hL:L=r1:=by
       have:=HH.out.2.2
       cases gk with
       | zero=>rwa [Cd.boR] at this
       | succ n=>rwa [Cd.boR,if_pos hl] at this
      subst hL;obtain ⟨ad,cap,hv⟩:=ZfZ ho;subst hv;have d1:decide ((1:Int)<(l.length:Int))=false:=by simp;omega
      have d1':decide (1<l.length)=false:=by simp;omega
      have hi1:=Zc L;clear hl HH;go_wp2_with (first | refine wpList_load_row rfl 127 _ rfl g4 rfl 127 (arr L) (0,0) _ S4.2 Tryz.underlying127 rfl hi1 ?_ | refine wpList_store_row rfl 127 _ _ rfl g2 (arr L) rfl rfl 127 _ S2.2 hi1 (by rw [Zi,Zi]) (ZW _) ?_)
      have U2:=S2.setRow L;exact bodyPost_ret (v:=.tuple #[.agg (arr L),.int .i64 0]) (ZK Tryz.results166 _ _ g2 127 _ (0,0) _ rfl U2.2 Tryz.underlying127 rfl hi1 _ rfl) rfl ⟨rfl,Zq B1 (Nat.le_of_lt hq.out.1) _⟩
     ·obtain ⟨f1,f2,f3,f4,f5,F6⟩:=HH.out.1.two (by omega);have hl16:=HH.out.1.len
      obtain ⟨n,hn⟩:∃ n,gk=n+1:=⟨gk - 1,by have:=HH.out.2.1;omega⟩
      subst hn
      have HBo:Hid (Cd.boR n (Cd.oth (Cd.oth l)++[Cd.mrg (Cd.fst l) (Cd.fst (Cd.oth l))]) (Cd.incr (Cd.mrg (Cd.fst l) (Cd.fst (Cd.oth l))) L)=r1):=by
       have:=HH.out.2.2
       rwa [Cd.boR,if_neg hl] at this
      have HF6:Hid (Cd.Fine (Cd.oth (Cd.oth l)++[Cd.mrg (Cd.fst l) (Cd.fst (Cd.oth l))]) (Cd.incr (Cd.mrg (Cd.fst l) (Cd.fst (Cd.oth l))) L)):=F6
      have HLn:Hid ((Cd.oth (Cd.oth l)++[Cd.mrg (Cd.fst l) (Cd.fst (Cd.oth l))]).length<=n):=by
       have:=HH.out.2.1;show _<=_;rw [List.length_append,List.length_singleton];omega
      have HLow:Hid (∀ i,0<=L i/\L i<=16):=fun i=>by have:=HH.out.1.low i;omega
      obtain ⟨g,cap,hv,hg,hgl,hrg⟩:=ZeU ho (by intro e;rw [e] at hl;simp at hl);subst hv;have d1:decide ((1:Int)<(l.length:Int))=true:=by simp;omega
      have d1':decide (1<l.length)=true:=by simp;omega
      have t1:Calls Tryz.prog 186 #[.slice (some ⟨g,0,none⟩) l.length cap] wr fun e w'=>∃ v,e=.returned (.tuple #[.agg (trc (Cd.fst l)),v])/\Below wr.heap.size wr w'/\w'.ownsRow wr.heap.size 205 17 v (Cd.oth l).length (flat (Cd.oth l)):=ZcG l g cap wr (by omega) hl16 hgl hrg
      have t2:∀ g cap w,g<w.heap.size->w.rangeAt g 0 (flat (Cd.oth l))->Calls Tryz.prog 186 #[.slice (some ⟨g,0,none⟩) (Cd.oth l).length cap] w fun e w'=>∃ v,e=.returned (.tuple #[.agg (trc (Cd.fst (Cd.oth l))),v])/\Below w.heap.size w w'/\w'.ownsRow w.heap.size 205 17 v (Cd.oth (Cd.oth l)).length (flat (Cd.oth (Cd.oth l))):=fun g cap w h1 h2=>ZcG (Cd.oth l) g cap w (by omega) (by omega) h1 h2
      have hne1:Hid (Cd.oth l ≠ []):=by intro e;rw [e] at f4;simp at f4;omega
      have Hq4:Hid ((Cd.oth (Cd.oth l)).length<=16):=by show _<=_;omega
      generalize Cd.oth (Cd.oth l)=l2 at *;generalize Cd.fst (Cd.oth l)=tb at *;generalize Cd.oth l=l1 at *;generalize Cd.fst l=ta at *;clear HH F6 hl f4 f5 ho hrg hg;go_wp2_with fail
      refine t1.mono ?_;rintro e w2 ⟨v1,rfl,G2,O2⟩;have V2:=S2.below G2;have V4:=S4.below G2;have B2:=bch B1 G2 (Nat.le_refl _);obtain ⟨g1,cap1,hv,hg1,hg1l,hrg1⟩:=ZeU O2 hne1.out;subst hv;have hia:=ZU ta;have X2:=V2.alloc (.cells (trc ta) 205);have X4:=V4.alloc (.cells (trc ta) 205);have A1:=TrAt.new w2 ta;have B3:Below w.heap.size w (w2.alloc (.cells (trc ta) 205)):=B2.alloc B2.size _;have hrg2:=Zci hrg1 ((Below.refl w2.heap.size w2).alloc (Nat.le_refl _) (.cells (trc ta) 205)) hg1l;have hw2s:w2.heap.size+1=(w2.alloc (.cells (trc ta) 205)).heap.size:=by simp
      have HS2:Hid (g4<w2.heap.size/\w2.heap.size<(w2.alloc (.cells (trc ta) 205)).heap.size/\g1<(w2.alloc (.cells (trc ta) 205)).heap.size):=by have:=V4.1;show _/\_/\_;omega
      clear t1 S2 S4 B1 G2 V2 V4 B2 O2 hrg1 hg1 hg1l hgl hw2s;go_wp2_with (refine wpList_store_row rfl 205 _ _ rfl w2.heap.size (trc ta) rfl rfl 205 _ (heap_alloc_last w2 _) hia rfl (Zdx _) ?_;rw [World.setRow_alloc_new])
      generalize w2.alloc (.cells (trc ta) 205)=wa at *;generalize w2.heap.size=ga at *;refine (t2 _ _ _ HS2.out.2.2 hrg2).mono ?_;rintro e w3 ⟨v2,rfl,G3,O3⟩;have Y2:=X2.below G3;have Y4:=X4.below G3;have A2:=A1.below G3;have B4:=bch B3 G3 (nl _)
      have HS3:Hid (g4<ga/\ga<w3.heap.size/\(∀ q,v2.ownBlock=some q->ga<q/\q<w3.heap.size)):=by
       refine ⟨HS2.out.1,A2.1,fun q e=>?_⟩;have h1:=O3.lt q e;have h2:=HS2.out.2.1;exact ⟨by omega,h1.2⟩
      have hs1:(w3.alloc (.cells (trc tb) 205)).heap.size=w3.heap.size+1:=by simp
      have hib:=ZU tb;have hit:=ZU ⟨fun _=>false,ta.w+tb.w⟩;have ca:=(A2.alloc (.cells (trc tb) 205)).cellw;have cb:=(TrAt.new w3 tb).cellw;have Z2:=(Y2.alloc (.cells (trc tb) 205)).alloc (.cells (trc ⟨fun _=>false,ta.w+tb.w⟩) 205);have Z4:=(Y4.alloc (.cells (trc tb) 205)).alloc (.cells (trc ⟨fun _=>false,ta.w+tb.w⟩) 205);have ZA:=(A2.alloc (.cells (trc tb) 205)).alloc (.cells (trc ⟨fun _=>false,ta.w+tb.w⟩) 205);have ZB:=(TrAt.new w3 tb).alloc (.cells (trc ⟨fun _=>false,ta.w+tb.w⟩) 205);have ZT:=TrAt.newN (w:=(w3.alloc (.cells (trc tb) 205))) hs1 ⟨fun _=>false,ta.w+tb.w⟩;have ZO:=ZpM (base:=g4+1) ((O3.alloc (.cells (trc tb) 205)).alloc (.cells (trc ⟨fun _=>false,ta.w+tb.w⟩) 205)) (by have:=HS2.out;omega);have B5:Below w.heap.size w ((w3.alloc (.cells (trc tb) 205)).alloc (.cells (trc ⟨fun _=>false,ta.w+tb.w⟩) 205)):=(B4.alloc B4.size _).alloc (by have:=B4.size;simp;omega) _;have Hs1:Hid ((w3.alloc (.cells (trc tb) 205)).heap.size=w3.heap.size+1):=hs1;clear hs1 X2 X4 A1 B3 t2 hrg2 G3 O3 Y2 Y4 A2 B4;go_wp2_with (first | (refine wpList_store_row rfl 205 _ _ rfl w3.heap.size (trc tb) rfl rfl 205 _ (heap_alloc_last w3 _) hib rfl (Zdx _) ?_;rw [World.setRow_alloc_new]) | refine ZbY rfl _ rfl (ta.w+tb.w) rfl ?_ | (refine wpList_store_row rfl 205 _ _ rfl (w3.heap.size+1) (trc ⟨fun _=>false,ta.w+tb.w⟩) rfl rfl 205 _ (ZpC Hs1.out _) hit rfl (Zdx _) ?_;rw [Zld Hs1.out]))
      generalize ((w3.alloc (.cells (trc tb) 205)).alloc (.cells (trc ⟨fun _=>false,ta.w+tb.w⟩) 205))=wc at *
      have HG:Hid (g4<ga/\ga<w3.heap.size/\w3.heap.size<w3.heap.size+1/\(∀ q,v2.ownBlock=some q->ga<q/\q<w3.heap.size)):=⟨HS3.out.1,HS3.out.2.1,by omega,HS3.out.2.2⟩
      generalize w3.heap.size+1=gt at *;generalize w3.heap.size=gb at *;clear ca cb HS3 HS2 hne1 Hs1 hib hit hia d1 d1';have ZT0:=ZT.congr (t:=⟨fun j=>decide (j<0) && (ta.h j || tb.h j),ta.w+tb.w⟩) (fun j _=>by simp) rfl;have Z40:=Z4.congr (f':=fun j=>if j<0 then Cd.incr (Cd.mrg ta tb) L j else L j) (fun j _=>by simp);go_loopw [12] (fun i wr=>∃ k:Nat,k<=16/\i=.int .i64 k/\TrAt wr ga ta/\TrAt wr gb tb/\TrAt wr gt ⟨fun j=>decide (j<k) && (ta.h j || tb.h j),ta.w+tb.w⟩/\RowAt wr g4 (fun j=>if j<k then Cd.incr (Cd.mrg ta tb) L j else L j)/\RowAt wr g2 (fun _=>0)/\wr.ownsRow (g4+1) 205 17 v2 l2.length (flat l2)/\Below w.heap.size w wr) (fun i _=>16 - (intOf i).toNat)
      case atStart=>exact ⟨0,by omega,rfl,ZA,ZB,ZT0,Z40,Z2,ZO,B5⟩
      case round =>
       clear ZA ZB ZT ZT0 Z4 Z40 Z2 ZO B5;obtain ⟨k,hk,rfl,TA,TB,TT,S4,S2,hO,Bl⟩:=hrel;by_cases hlt:k<16
       ·have hk1:decide ((k:Int)<16)=true:=by simp;omega
        have hk2:decide (k<16)=true:=by simp;omega
        have hk3:(k:Int)<16:=by omega
        have ca:=TA.cellh k hlt;have cb:=TB.cellh k hlt;have ct:=TT.cellh k hlt;have ft:=TT.frozen k
        cases ha:ta.h k with
        | true =>
         have hm:(ta.h k || tb.h k)=true:=by rw [ha];rfl
         rw [ha] at ca;clear ha;have cg:(wr.setCell ⟨gt,k,none⟩ (.bool true)).cell? ⟨g4,k,none⟩=some (.int .i64 (L k)):=by rw [(S4.setFar (q:=gt) (by have:=HG.out;omega) k (.bool true)).cell k hlt];simp
         have fg:=(S4.setFar (q:=gt) (by have:=HG.out;omega) k (.bool true)).frozen k;have HLk:=HLow.out k;have hL0:0<=L k:=HLk.1;have hL1:L k<=16:=HLk.2;have P2:=(S2.setFar (q:=gt) (by have:=HG.out;have:=hq.out;omega) k (.bool true)).setFar (q:=g4) (by have:=hq.out;omega) k (.int .i64 (L k+1));have P4:=((S4.setFar (q:=gt) (by have:=HG.out;omega) k (.bool true)).set k (L k+1)).congr (f':=fun j=>if j<k+1 then Cd.incr (Cd.mrg ta tb) L j else L j) (fun j _=>Zkt hm);have PA:=(TA.setFar (q:=gt) (by have:=HG.out;omega) k (.bool true)).setFar (q:=g4) (by have:=HG.out;omega) k (.int .i64 (L k+1));have PB:=(TB.setFar (q:=gt) (by have:=HG.out;omega) k (.bool true)).setFar (q:=g4) (by have:=HG.out;omega) k (.int .i64 (L k+1));have PT:=((TT.set k hlt true).setFar (q:=g4) (by have:=HG.out;omega) k (.int .i64 (L k+1))).congr (t:=⟨fun j=>decide (j<k+1) && (ta.h j || tb.h j),ta.w+tb.w⟩) (fun j _=>Zfw hm.symm) rfl;have PO:=Zbi (k:=k) (x:=.int .i64 (L k+1)) (Zbi (g:=gt) (k:=k) (x:=.bool true) hO (fun e=>by have:=HG.out.2.2.2 _ e;have:=HG.out;omega)) (g:=g4) (fun e=>by have:=HG.out.2.2.2 _ e;have:=HG.out;omega);have PB1:=(Bl.setCell (p:=⟨gt,k,none⟩) (by have:=HG.out;have:=hq.out;show _<=gt;omega) (.bool true)).setCell (p:=⟨g4,k,none⟩) (by have:=hq.out;show _<=g4;omega) (.int .i64 (L k+1));clear TA TB TT S2 S4 hO Bl hm;generalize L k=Lk at *;go_wp2_with fail
         go_roundw
         case rel=>exact ⟨k+1,by omega,by go_num,PA,PB,PT,P4,P2,PO,PB1⟩
         case measure=>simp [intOf];omega
        | false =>
         cases hb:tb.h k with
         | true =>
          have hm:(ta.h k || tb.h k)=true:=by rw [hb];simp
          rw [ha] at ca;rw [hb] at cb;clear ha hb;have cg:(wr.setCell ⟨gt,k,none⟩ (.bool true)).cell? ⟨g4,k,none⟩=some (.int .i64 (L k)):=by rw [(S4.setFar (q:=gt) (by have:=HG.out;omega) k (.bool true)).cell k hlt];simp
          have fg:=(S4.setFar (q:=gt) (by have:=HG.out;omega) k (.bool true)).frozen k;have HLk:=HLow.out k;have hL0:0<=L k:=HLk.1;have hL1:L k<=16:=HLk.2;have P2:=(S2.setFar (q:=gt) (by have:=HG.out;have:=hq.out;omega) k (.bool true)).setFar (q:=g4) (by have:=hq.out;omega) k (.int .i64 (L k+1));have P4:=((S4.setFar (q:=gt) (by have:=HG.out;omega) k (.bool true)).set k (L k+1)).congr (f':=fun j=>if j<k+1 then Cd.incr (Cd.mrg ta tb) L j else L j) (fun j _=>Zkt hm);have PA:=(TA.setFar (q:=gt) (by have:=HG.out;omega) k (.bool true)).setFar (q:=g4) (by have:=HG.out;omega) k (.int .i64 (L k+1));have PB:=(TB.setFar (q:=gt) (by have:=HG.out;omega) k (.bool true)).setFar (q:=g4) (by have:=HG.out;omega) k (.int .i64 (L k+1));have PT:=((TT.set k hlt true).setFar (q:=g4) (by have:=HG.out;omega) k (.int .i64 (L k+1))).congr (t:=⟨fun j=>decide (j<k+1) && (ta.h j || tb.h j),ta.w+tb.w⟩) (fun j _=>Zfw hm.symm) rfl;have PO:=Zbi (k:=k) (x:=.int .i64 (L k+1)) (Zbi (g:=gt) (k:=k) (x:=.bool true) hO (fun e=>by have:=HG.out.2.2.2 _ e;have:=HG.out;omega)) (g:=g4) (fun e=>by have:=HG.out.2.2.2 _ e;have:=HG.out;omega);have PB1:=(Bl.setCell (p:=⟨gt,k,none⟩) (by have:=HG.out;have:=hq.out;show _<=gt;omega) (.bool true)).setCell (p:=⟨g4,k,none⟩) (by have:=hq.out;show _<=g4;omega) (.int .i64 (L k+1));clear TA TB TT S2 S4 hO Bl hm;generalize L k=Lk at *;go_wp2_with fail
          go_roundw
          case rel=>exact ⟨k+1,by omega,by go_num,PA,PB,PT,P4,P2,PO,PB1⟩
          case measure=>simp [intOf];omega
         | false =>
          have hm:(ta.h k || tb.h k)=false:=by rw [ha,hb];rfl
          rw [ha] at ca;rw [hb] at cb;have P2:=S2.setFar (q:=gt) (by have:=HG.out;have:=hq.out;omega) k (.bool false);have P4:=(S4.setFar (q:=gt) (by have:=HG.out;omega) k (.bool false)).congr (f':=fun j=>if j<k+1 then Cd.incr (Cd.mrg ta tb) L j else L j) (fun j _=>Zsv hm);have PA:=TA.setFar (q:=gt) (by have:=HG.out;omega) k (.bool false);have PB:=TB.setFar (q:=gt) (by have:=HG.out;omega) k (.bool false);have PT:=(TT.set k hlt false).congr (t:=⟨fun j=>decide (j<k+1) && (ta.h j || tb.h j),ta.w+tb.w⟩) (fun j _=>Zfw hm.symm) rfl;have PO:=Zbi (k:=k) (x:=.bool false) hO (g:=gt) (fun e=>by have:=HG.out.2.2.2 _ e;have:=HG.out;omega);have PB1:=Bl.setCell (p:=⟨gt,k,none⟩) (by have:=HG.out;have:=hq.out;show _<=gt;omega) (.bool false);clear TA TB TT S2 S4 hO Bl hm ha hb;go_wp2_with fail
          go_roundw
          case rel=>exact ⟨k+1,by omega,by go_num,PA,PB,PT,P4,P2,PO,PB1⟩
          case measure=>simp [intOf];omega
       ·obtain rfl:k=16:=by omega
        have TM:=TT.congr (t:=Cd.mrg ta tb) (fun j hj=>by simp [Cd.mrg,hj]) rfl;have SM:=S4.congr (f':=Cd.incr (Cd.mrg ta tb) L) (fun j hj=>by rw [if_pos hj]);have him:=ZU (Cd.mrg ta tb);have hg4:g4<wr.heap.size:=S4.1;have hl2:=Hq4.out;generalize Cd.incr (Cd.mrg ta tb) L=L' at *;generalize Cd.mrg ta tb=tm at *;clear TA TB TT S4;go_wp2_with (first | refine wpList_load_row rfl 205 _ rfl gt rfl 205 (trc tm) (0,0) _ TM.2 Tryz.underlying205 rfl him ?_ | refine Zav rfl _ rfl tm rfl ?_ | (at_builtin;go_must (refine Zar rfl _ _ rfl (g4+1) _ l2 rfl hO tm rfl (by omega) (by omega) ?_;intro v' w6 hown' hgrow)))
        have hne:∀ q,q<=g4->some q ≠ Value.ownBlock v2:=fun q hq9 e=>by have:=(hO.lt q e.symm).1;omega
        have U2:=S2.block (ZaV S2.1 (hne _ (Nat.le_of_lt hq.out.2)) hgrow);have U4:=SM.block (ZaV hg4 (hne _ (Nat.le_refl _)) hgrow);have B6:Below w.heap.size w w6:=(Bl.alloc Bl.size _).grown hgrow (by have:=Bl.size;simp;omega) (fun j hj=>by have:=(hO.lt j hj).1;have:=hq.out;omega);go_roundg n
        case measure=>omega
        case rel=>exact ⟨l2++[tm],L',hown',U2,U4,B6,HF6.out,HLn.out,HBo.out⟩
theorem ZiC (c:Nat->Int) (w:World) :
 Calls Tryz.prog 166 #[.agg (arr c)] w fun e w'=>e=.returned (.tuple #[.agg (arr (Cd.bld c).1),.int .i64 (Cd.bld c).2])/\Below w.heap.size w w':=by
 by_cases h:Cd.InR c 2048 16
 ·exact ZlW c w h
 ·have e:Cd.bld c=(fun _=>0,3):=by rw [Cd.bld,if_pos h]
  rw [e];exact ZfM c w h
set_option linter.unusedVariables false
theorem ZpP (l:List UInt8) (x:Int):(⟨(2 :: l).toArray⟩:ByteArray)++⟨#[UInt8.ofNat x.toNat]⟩=⟨(2 :: (l++[UInt8.ofNat x.toNat])).toArray⟩:=by
 rw [show (⟨#[UInt8.ofNat x.toNat]⟩:ByteArray)=⟨([UInt8.ofNat x.toNat]).toArray⟩ from rfl,Nm.ZdM];rfl
theorem Zqk (L:Nat->Int) (n:ByteArray) (w:ByteArray):(⟨(2 :: Bk.jnK L 8).toArray⟩:ByteArray)++n++w=(⟨#[2]⟩:ByteArray)++((⟨(Bk.jn L).toArray⟩:ByteArray)++n++w):=by
 apply Nm.ZG;simp [Bk.jn]
theorem Zbo (s:ByteArray) (w:World) (hs:s.size<=1024) :
 Calls Tryz.prog 135 #[.string s] w fun e w'=>e=.returned (.string ((⟨#[2]⟩:ByteArray)++Bk.enc s))/\Below w.heap.size w w':=by
 have c1:=fun w=>Zgx s w hs
 have c2:=fun w=>ZiC (Bk.hv s) w
 have c3:=fun w=>ZF s.size (s.size:Int) w (by omega) (by omega) (by omega)
 rw [Int.toNat_natCast] at c3;have c4:=fun w=>Zdc (Cd.bld (Bk.hv s)).1 s w (by omega)
 have HE:Hid ((⟨(2 :: Bk.jnK (Cd.bld (Bk.hv s)).1 8).toArray⟩:ByteArray)++⟨(Nm.nb s.size).toArray⟩++(Cd.wrt (Cd.bld (Bk.hv s)).1 s).1=(⟨#[2]⟩:ByteArray)++Bk.enc s):=Zqk _ _ _
 have z2:(⟨(Nm.nb s.size).toArray⟩:ByteArray).size<=5:=by
  have:=Nm.Zt s.size (by omega);show (Nm.nb s.size).toArray.size<=_;simpa using this
 have z3:=Zki (Cd.bld (Bk.hv s)).1 s;have HR:Hid (Cd.InR (Cd.bld (Bk.hv s)).1 15 16):=Bk.ZmQ (Bk.Zns s hs);have hiL:=Zc (Cd.bld (Bk.hv s)).1;have hb0:(s.size:Int)<=1024:=by omega
 generalize (⟨#[2]⟩:ByteArray)++Bk.enc s=R at *;generalize (Cd.wrt (Cd.bld (Bk.hv s)).1 s).1=W at *;generalize (Cd.wrt (Cd.bld (Bk.hv s)).1 s).2=We at *;generalize (⟨(Nm.nb s.size).toArray⟩:ByteArray)=N at *;generalize (Cd.bld (Bk.hv s)).1=f at *;generalize (Cd.bld (Bk.hv s)).2=E at *;generalize Bk.hv s=C at *;go_enter Tryz.func135,Tryz.ntmps135
 go_wp2_with fail
 refine (c1 _).mono ?_;rintro e w1 ⟨rfl,G1⟩;go_wp2_with fail
 refine (c2 _).mono ?_;rintro e w2 ⟨rfl,G2⟩;have B2:=bch G1 G2 (nl _);have L3:=RowAt.new w2 f;have B3:Below w.heap.size w (w2.alloc (.cells (arr f) 127)):=B2.alloc B2.size _;have hgl:w.heap.size<=w2.heap.size:=B2.size;clear G1 G2 B2 c1 c2;go_wp2_with (refine wpList_store_row rfl 127 _ _ rfl w2.heap.size (arr f) rfl rfl 127 _ (heap_alloc_last w2 _) hiL rfl (ZW _) ?_;rw [World.setRow_alloc_new])
 generalize w2.alloc (.cells (arr f) 127)=wa at *;generalize w2.heap.size=gl at *;go_loopw [5,6] (fun v i wr=>∃ k:Nat,k<=8/\i=.int .i64 k/\v=.string ⟨(2 :: Bk.jnK f k).toArray⟩/\RowAt wr gl f/\Below w.heap.size w wr) (fun _ i _=>8 - (intOf i).toNat)
 case atStart=>exact ⟨0,by omega,rfl,rfl,L3,B3⟩
 case round =>
  clear L3 B3;obtain ⟨k,hk,rfl,rfl,R1,B1⟩:=hrel;by_cases hlt:k<8
  ·have hk1:decide ((k:Int)<8)=true:=by simp;omega
   have hk2:decide (k<8)=true:=by simp;omega
   obtain ⟨K2,hK2e⟩:∃ K2,2*k=K2:=⟨_,rfl⟩
   obtain ⟨K3,hK3e⟩:∃ K3,2*k+1=K3:=⟨_,rfl⟩
   have hK2:K2<16:=by omega
   have hK3:K3<16:=by omega
   have m2:2*(k:Int)=(K2:Int):=by omega
   have m3:(K2:Int)+1=(K3:Int):=by omega
   have hK2i:(K2:Int)<16:=by omega
   have hK3i:(K3:Int)<16:=by omega
   have HN:=Bk.Zjt f k;rw [hK3e,hK2e] at HN;have c9:=R1.cell K2 hK2;have c8:=R1.cell K3 hK3;have hx:=HR.out K2 hK2;have hy:=HR.out K3 hK3;have HNN:Hid (Bk.jnK f (k+1)=Bk.jnK f k++[UInt8.ofNat (16*f K2+f K3).toNat]):=by rw [Int.mul_comm];exact HN
   have hlen:(⟨(2 :: Bk.jnK f k).toArray⟩:ByteArray).size<=100:=by
    show (2 :: Bk.jnK f k).toArray.size<=_;simp [Bk.Zdd];omega
   have HS:Hid (∀ x:Int,(⟨(2 :: Bk.jnK f k).toArray⟩:ByteArray)++⟨#[UInt8.ofNat x.toNat]⟩=⟨(2 :: (Bk.jnK f k++[UInt8.ofNat x.toNat])).toArray⟩):=ZpP (Bk.jnK f k);clear HN hK2e hK3e;generalize f K2=x at *;generalize f K3=y at *;generalize hJ:(⟨(2 :: Bk.jnK f k).toArray⟩:ByteArray)=J at *;clear hJ;obtain ⟨hx0,hx1⟩:=hx;obtain ⟨hy0,hy1⟩:=hy;have hcv:=Zbh (16*x+y) (by omega) (by omega);have w1:IntKind.i64.wrap (16*x)=16*x:=IntWalk.i64_in _ ⟨by omega,by omega⟩;have w2:IntKind.i64.wrap (16*x+y)=16*x+y:=IntWalk.i64_in _ ⟨by omega,by omega⟩;have w3:IntKind.u8.wrap (16*x+y)=16*x+y:=IntWalk.u8_in _ ⟨by omega,by omega⟩;have w4:IntKind.i64.wrap (K2:Int)=(K2:Int):=IntWalk.i64_in _ ⟨by omega,by omega⟩;have w5:IntKind.i64.wrap (K3:Int)=(K3:Int):=IntWalk.i64_in _ ⟨by omega,by omega⟩;have hgw:=R1.1;have X1:RowAt (wr.drew.alloc (.cells #[.int .u8 (16*x+y)] 5)) gl f:=(show RowAt wr.drew gl f from R1).alloc _;have X2:Below w.heap.size w (wr.drew.alloc (.cells #[.int .u8 (16*x+y)] 5)):=(show Below w.heap.size w wr.drew from B1.drew).alloc B1.size _;clear R1 B1;go_wp2_with fail
   go_region
   go_wp2_with fail
   go_roundw
   case rel=>exact ⟨k+1,by omega,by go_num,by rw [HNN.out,<-HS.out],X1,X2⟩
   case measure=>simp [intOf];omega
  ·obtain rfl:k=8:=by omega
   have hk1:decide ((8:Int)<8)=false:=by decide
   have hlen:(⟨(2 :: Bk.jnK f 8).toArray⟩:ByteArray).size<=100:=by
    show (2 :: Bk.jnK f 8).toArray.size<=_;simp [Bk.Zdd]
   generalize (⟨(2 :: Bk.jnK f 8).toArray⟩:ByteArray)=J at *;go_wp2_with (refine wpList_load_row rfl 127 _ rfl gl rfl 127 (arr f) (0,0) _ R1.2 Tryz.underlying127 rfl hiL ?_)
   refine (c4 _).mono ?_;rintro e w4 ⟨rfl,G4⟩;have B5:=bch B1 G4 (nl _);clear B1 G4 c4 R1;go_wp2_with fail
   refine (c3 _).mono ?_;rintro e w5 ⟨rfl,G5⟩;have B6:=bch B5 G5 (nl _);clear B5 G5 c3;go_wp2_with fail
   go_ret
   exact ⟨congrArg (fun s=>Ending.returned (Value.string s)) HE.out,B6⟩
theorem Zgw (s:ByteArray) (a:Nat):s.extract a a=⟨#[]⟩:=by
 apply Nm.ZG;rw [Tk.Zac];simp
theorem Zqe (s:ByteArray) (f a:Nat) (h:f<=a):s.extract f a++s.extract a (a+1)=s.extract f (a+1):=by
 apply Nm.ZG;rw [Nm.appd,Tk.Zac,Tk.Zac,Tk.Zac,show a+1 - a=1 by omega,show a+1 - f=(a - f)+1 by omega,List.take_add,List.drop_drop,show f+(a - f)=a by omega]
theorem Zmk (s:ByteArray) (f a:Nat) (ha:a<=s.size):(s.extract f a).size=a - f:=by simp;omega
theorem ZkZ {l:List UInt8} {a m p:Nat} {b:Nat × Nat}:((List.range (p+1)).reverse).foldl (Tk.stp l a m) b=((List.range p).reverse).foldl (Tk.stp l a m) (Tk.stp l a m b p):=by
 rw [List.range_succ];simp
theorem ZaP (dict text:ByteArray) (w:World) (hd:dict.size<=256) (ht:text.size<=512) :
 Calls Tryz.prog 134 #[.string dict,.string text] w fun e w'=>Below w.heap.size w w'/\∃ ad cap,e=.returned (.slice ad (Tk.P (dict++text) dict.size dict.size).length cap)/\SlAt w' ad (Tk.P (dict++text) dict.size dict.size):=by
 have d1':(dict.size:Int)<=256:=by omega
 have d2':(text.size:Int)<=512:=by omega
 obtain ⟨i0,hi,hz0,hz1,hz2⟩:=info_parts ZcX;go_enter Tryz.func134,Tryz.ntmps134
 go_wp2_with fail
 have hsz:(dict++text).size=dict.size+text.size:=Nm.apps _ _;generalize hs0:dict++text=s at *;have hs1:s.size<=768:=by omega
 have hs2:(s.size:Int)<=768:=by omega
 have hds:dict.size<=s.size:=by omega
 have HS0:Hid (dict++text=s):=hs0;clear hsz hs0 d1' d2';generalize hd0:dict.size=d at *;have HD0:Hid (dict.size=d):=hd0;clear hd0;go_loopw [6,7,8,9,10,11,12] (fun o x i _ _ _ _ wr=>∃ (a f:Nat) (X:ByteArray) (l:List Tk.T),x=.string X/\Hid (X=s.extract f a)/\i=.int .i64 (a:Nat)/\wr.ownsRow w.heap.size 165 3 o l.length (tcs l)/\f<=a/\a<=s.size/\l.length<=f/\Hid (l++Tk.P s a f=Tk.P s d d)/\Below w.heap.size w wr) (fun _ _ i _ _ _ _ _=>s.size - (intOf i).toNat)
 case atStart=>exact ⟨d,d,⟨#[]⟩,[],rfl,(Zgw s d).symm,rfl,World.ownsRow_nil _ _ _ _,Nat.le_refl _,hds,by simp,rfl,Below.refl _ _⟩
 case round =>
  obtain ⟨a,f,X,l,rfl,hX,rfl,hown,hfa,has,hlf,hP,G⟩:=hrel;have HO:Hid (wr.ownsRow w.heap.size 165 3 u6 l.length (tcs l)):=hown;clear hown;have hXs:X.size=a - f:=by rw [hX.out];exact Zmk s f a has
  have hgs:=G.size;by_cases hend:a<s.size
  ·have d3:decide ((a:Int)<(s.size:Int))=true:=by simp;omega
   have d3':decide (a<s.size)=true:=by simp;omega
   go_wp2_with fail
   obtain ⟨wo,rfl⟩:∃ wo:World,wo=wr:=⟨_,rfl⟩
   obtain ⟨bb,hbb⟩:∃ bb,Tk.bst s.data.toList a=bb:=⟨_,rfl⟩
   have HB:Hid (Tk.bst s.data.toList a=bb):=hbb;clear hbb;have hl:s.data.toList.length=s.size:=by simp
   have HM:Hid (Tk.most s.data.toList a=min 64 (s.size - a)):=by show _=_;unfold Tk.most;rw [hl]
   clear hl;go_loopw [9,10,11,12] (fun x y i _ wi=>∃ best far q:Nat,x=.int .i64 (best:Nat)/\y=.int .i64 (far:Nat)/\i=.int .i64 (q:Nat)/\1<=q/\q<=a+1/\far<=a/\best<=64/\Hid ((List.range (a+1 - q)).reverse.foldl (Tk.stp s.data.toList a (Tk.most s.data.toList a)) (far,best)=bb)/\Below wo.heap.size wo wi) (fun _ _ i _ _=>a+1 - (intOf i).toNat)
   case atStart=>exact ⟨0,0,1,rfl,rfl,rfl,by omega,by omega,by omega,by omega,HB.out,bR _ _⟩
   case round =>
    obtain ⟨best,far,q,rfl,rfl,rfl,hq1,hq2,hfar,hbest,hfold,Gi⟩:=hrel;by_cases hqa:q<=a
    ·have d4:decide ((q:Int)<=(a:Int))=true:=by simp;omega
     have d4':decide (q<=a)=true:=by simp;omega
     have hstep:(List.range (a+1 - q)).reverse.foldl (Tk.stp s.data.toList a (Tk.most s.data.toList a)) (far,best)=(List.range (a+1 - (q+1))).reverse.foldl (Tk.stp s.data.toList a (Tk.most s.data.toList a)) (Tk.stp s.data.toList a (Tk.most s.data.toList a) (far,best) (a - q)):=by
      rw [show a+1 - q=(a - q)+1 by omega,ZkZ,show a+1 - (q+1)=a - q by omega]
     have hcm:=fun w=>Zqn s a q w (by omega) has hq1 hqa
     have hle:=Tk.Zkr s.data.toList (Tk.most s.data.toList a) (a - q) a;have hm64:Tk.most s.data.toList a<=64:=by rw [HM.out];omega
     rw [<-HM.out] at hcm
     obtain ⟨k,hk⟩:∃ k,Tk.alk s.data.toList (a - q) a (Tk.most s.data.toList a)=k:=⟨_,rfl⟩
     rw [hk] at hcm hle;by_cases hbig:best<k
     ·have HF:Hid ((List.range (a+1 - (q+1))).reverse.foldl (Tk.stp s.data.toList a (Tk.most s.data.toList a)) (q,k)=bb):=by
       show _=_;rw [<-hfold.out,hstep];unfold Tk.stp;rw [hk,if_pos (by exact hbig),show a - (a - q)=q by omega]
      have d5:decide ((best:Int)<(k:Int))=true:=by simp;omega
      have d5':decide (best<k)=true:=by simp;omega
      have hk64:k<=64:=by omega
      clear hstep hfold hk hle hm64;go_wp2_with (go_at_call 165;go_must (refine (hcm _).mono ?_;rintro e w1 ⟨rfl,hb1⟩))
      go_roundw
      case rel=>exact ⟨k,q,q+1,rfl,rfl,by go_num,by omega,by omega,by omega,hk64,HF,bch Gi hb1 (nl _)⟩
      case measure=>simp [intOf];omega
     ·have HF:Hid ((List.range (a+1 - (q+1))).reverse.foldl (Tk.stp s.data.toList a (Tk.most s.data.toList a)) (far,best)=bb):=by
       show _=_;rw [<-hfold.out,hstep];unfold Tk.stp;rw [hk,if_neg (by exact hbig)]
      have d5:decide ((best:Int)<(k:Int))=false:=by simp;omega
      have d5':decide (best<k)=false:=by simp;omega
      clear hstep hfold hk hle hm64;go_wp2_with (go_at_call 165;go_must (refine (hcm _).mono ?_;rintro e w1 ⟨rfl,hb1⟩))
      go_roundw
      case rel=>exact ⟨best,far,q+1,rfl,rfl,by go_num,by omega,by omega,hfar,hbest,HF,bch Gi hb1 (nl _)⟩
      case measure=>simp [intOf];omega
    ·have d4:decide ((q:Int)<=(a:Int))=false:=by simp;omega
     have d4':decide (q<=a)=false:=by simp;omega
     have hbb:bb=(far,best):=by
      rw [<-hfold.out,show a+1 - q=0 by omega];rfl
     subst hbb;have HOi:Hid (wr.ownsRow w.heap.size 165 3 u6 l.length (tcs l)):=Zh HO.out Gi;have GG:=bch G Gi (nl _);have hgw:=GG.size;clear hfold;by_cases h3:best<3
     ·have HN:Hid (l++Tk.P s (a+1) f=Tk.P s d d):=by
       show _=_;rw [<-hP.out,Tk.ZrX hend (by rw [HB.out];exact h3)]
      have HXN:Hid (X++s.extract a (a+1)=s.extract f (a+1)):=by
       show _=_;rw [hX.out];exact Zqe s f a hfa
      have d6:decide ((best:Int)<3)=true:=by simp;omega
      have d6':decide (best<3)=true:=by simp;omega
      have hsl:=Zeb s (a:Int) ((a:Int)+1) a (a+1) rfl (by omega) (by omega) (by omega);have hY:(s.extract a (a+1)).size=1:=by rw [Zmk s a (a+1) (by omega)];omega
      have hXb:X.size<=768:=by omega
      have hwr:IntKind.i64.wrap ((a:Int)+1)=(a:Int)+1:=IntWalk.i64_in _ ⟨by omega,by omega⟩;generalize s.extract a (a+1)=Y at *;have HXs:Hid (X.size=a - f):=hXs;clear hX hXs hP HM HB;go_wp2_with fail
      go_roundw
      case rel=>exact ⟨a+1,f,X++Y,l,rfl,HXN,by go_num,HOi.out,by omega,by omega,hlf,HN,GG⟩
      case measure=>simp [intOf];omega
     ·have hbo:=Tk.ZjM s.data.toList a;rw [HB.out,HM.out] at hbo;simp only at hbo;have han:a+best<=s.size:=by omega
      have HN:Hid ((l++Tk.lay s f a)++[⟨⟨#[]⟩,(far:Nat),(best:Nat)⟩]++Tk.P s (a+best) (a+best)=Tk.P s d d):=by
       show _=_;rw [<-hP.out,Tk.Zmb hend (by rw [HB.out];exact h3),HB.out];simp
      have d6:decide ((best:Int)<3)=false:=by simp;omega
      have d6':decide (best<3)=false:=by simp;omega
      have hwr:IntKind.i64.wrap ((a:Int)+(best:Int))=(a:Int)+(best:Int):=IntWalk.i64_in _ ⟨by omega,by omega⟩;clear hbo hP HM HB;by_cases hf:f<a
      ·have hE:=ZX (s:=X) (by omega)
       have hlay:Tk.lay s f a=[⟨X,0,0⟩]:=by
        unfold Tk.lay;rw [if_pos hf,hX.out]
       rw [hlay] at HN;have HXs:Hid (X.size=a - f):=hXs;clear hX hXs hlay;have tok:True:=trivial;go_wp2_with (first | (at_builtin;have _t:=tok;go_must (refine wpList_append_own _ rfl _ _ 131 rfl w.heap.size 165 i0 (.agg #[.string ⟨#[]⟩,.int .i64 0,.int .i64 0]) 3 32 Tryz.underlying131 hi hz0 hz1 hz2 rfl (by decide) _ _ _ rfl (HOi.out.alloc _) ⟨wr.heap.size,0,none⟩ 1 1 [.string X,.int .i64 0,.int .i64 0] rfl rfl (ZhC _ _ _ _ _) (one3 _ _ _ rfl rfl rfl) (ZaO (by omega)) (by omega) (by simp;omega) ?_;intro v4 w4 hown4 hgrow4 _;clear _t tok;have hgs4:=hgrow4.size)) | (at_builtin;go_must (refine wpList_append_own _ rfl _ _ 131 rfl w.heap.size 165 i0 (.agg #[.string ⟨#[]⟩,.int .i64 0,.int .i64 0]) 3 32 Tryz.underlying131 hi hz0 hz1 hz2 rfl (by decide) _ _ _ rfl (hown4.alloc _) ⟨w4.heap.size,0,none⟩ 1 1 [.string ⟨#[]⟩,.int .i64 (far:Nat),.int .i64 (best:Nat)] rfl rfl (ZhC _ _ _ _ _) (one3 _ _ _ rfl rfl rfl) (ZaO (by omega)) (by omega) (by simp at hgs4 hgw |-;omega) ?_;intro v5 w5 hown5 hgrow5 _)))
       go_roundw
       case rel =>
        have t1:tcs (l++[⟨X,0,0⟩]++[⟨⟨#[]⟩,(far:Nat),(best:Nat)⟩])=tcs l++[.string X,.int .i64 0,.int .i64 0]++[.string ⟨#[]⟩,.int .i64 (far:Nat),.int .i64 (best:Nat)]:=by rw [Zao,Zao];rfl
        have B4:=(GG.alloc hgw _).grown hgrow4 (by simp;omega) (fun k hk=>(HOi.out.lt k hk).1);refine ⟨a+best,a+best,⟨#[]⟩,l++[⟨X,0,0⟩]++[⟨⟨#[]⟩,(far:Nat),(best:Nat)⟩],rfl,(Zgw s _).symm,by go_num,?_,Nat.le_refl _,by omega,by simp;omega,HN,(B4.alloc B4.size _).grown hgrow5 (by have:=B4.size;simp;omega) (fun k hk=>(hown4.lt k hk).1)⟩;rw [t1,List.length_append,List.length_append];exact hown5
       case measure=>simp [intOf];omega
      ·have hE:=Zaq (s:=X) (by omega)
       have hlay:Tk.lay s f a=[]:=by
        unfold Tk.lay;rw [if_neg hf]
       rw [hlay,List.append_nil] at HN;have HX0:Hid (X.size=0):=by show _=_;omega
       have HXs:Hid (X.size=a - f):=hXs;clear hX hXs hlay;go_wp2_with (first | (at_builtin;go_must (refine wpList_append_own _ rfl _ _ 131 rfl w.heap.size 165 i0 (.agg #[.string ⟨#[]⟩,.int .i64 0,.int .i64 0]) 3 32 Tryz.underlying131 hi hz0 hz1 hz2 rfl (by decide) _ _ _ rfl (HOi.out.alloc _) ⟨wr.heap.size,0,none⟩ 1 1 [.string ⟨#[]⟩,.int .i64 (far:Nat),.int .i64 (best:Nat)] rfl rfl (ZhC _ _ _ _ _) (one3 _ _ _ rfl rfl rfl) (ZaO (by omega)) (by omega) (by simp at hgw |-;omega) ?_;intro v5 w5 hown5 hgrow5 _)))
       go_roundw
       case rel =>
        have t1:tcs (l++[⟨⟨#[]⟩,(far:Nat),(best:Nat)⟩])=tcs l++[.string ⟨#[]⟩,.int .i64 (far:Nat),.int .i64 (best:Nat)]:=by rw [Zao];rfl
        have hX0:X=⟨#[]⟩:=Nm.ZG (List.eq_nil_of_length_eq_zero (by simpa using HX0.out));refine ⟨a+best,a+best,X,l++[⟨⟨#[]⟩,(far:Nat),(best:Nat)⟩],rfl,by rw [hX0];exact (Zgw s _).symm,by go_num,?_,Nat.le_refl _,by omega,by simp;omega,HN,(GG.alloc hgw _).grown hgrow5 (by simp;omega) (fun k hk=>(HOi.out.lt k hk).1)⟩;rw [t1,List.length_append];exact hown5
       case measure=>simp [intOf];omega
  ·have d3:decide ((a:Int)<(s.size:Int))=false:=by simp;omega
   have d3':decide (a<s.size)=false:=by simp;omega
   have HE:Hid (l++Tk.lay s f a=Tk.P s d d):=by
    show _=_;rw [<-hP.out,Tk.Zti (by omega)]
   have HOi:=HO;clear hP;by_cases hf:f<a
   ·have hE:=ZX (s:=X) (by omega)
    have hlay:Tk.lay s f a=[⟨X,0,0⟩]:=by
     unfold Tk.lay;rw [if_pos hf,hX.out]
    rw [hlay] at HE;have HXs:Hid (X.size=a - f):=hXs;clear hX hXs hlay;have tok:True:=trivial;go_wp2_with (first | (at_builtin;have _t:=tok;go_must (refine wpList_append_own _ rfl _ _ 131 rfl w.heap.size 165 i0 (.agg #[.string ⟨#[]⟩,.int .i64 0,.int .i64 0]) 3 32 Tryz.underlying131 hi hz0 hz1 hz2 rfl (by decide) _ _ _ rfl (HOi.out.alloc _) ⟨wr.heap.size,0,none⟩ 1 1 [.string X,.int .i64 0,.int .i64 0] rfl rfl (ZhC _ _ _ _ _) (one3 _ _ _ rfl rfl rfl) (ZaO (by omega)) (by omega) (by simp;omega) ?_;intro v4 w4 hown4 hgrow4 _;clear _t tok;have hgs4:=hgrow4.size)))
    go_ret
    have t1:tcs (l++[⟨X,0,0⟩])=tcs l++[.string X,.int .i64 0,.int .i64 0]:=by rw [Zao];rfl
    rw [<-t1] at hown4;obtain ⟨ad,cap,hv,hsl⟩:=ZbL hown4;refine ⟨(G.alloc hgs _).grown hgrow4 (by simp;omega) (fun k hk=>(HO.out.lt k hk).1),ad,cap,?_,?_⟩
    ·rw [HS0.out,HD0.out,<-HE.out,<-hv];rfl
    ·rw [HS0.out,HD0.out,<-HE.out];exact hsl
   ·have hE:=Zaq (s:=X) (by omega)
    have hlay:Tk.lay s f a=[]:=by
     unfold Tk.lay;rw [if_neg hf]
    rw [hlay,List.append_nil] at HE;have HXs:Hid (X.size=a - f):=hXs;clear hX hXs hlay;go_wp2_with fail
    go_ret
    obtain ⟨ad,cap,hv,hsl⟩:=ZbL HO.out;refine ⟨G,ad,cap,?_,?_⟩
    ·rw [HS0.out,HD0.out,<-HE.out,<-hv];rfl
    ·rw [HS0.out,HD0.out,<-HE.out];exact hsl
set_option linter.unusedVariables false
namespace Bk
def bst (text s:ByteArray):ByteArray:=if s.size<text.size then (⟨#[1]⟩:ByteArray)++s else (⟨#[0]⟩:ByteArray)++text
theorem ZsW (text s:ByteArray):mnK (bks text s) (bks text s).length=if s.size=0 then bst text s else if ((⟨#[2]⟩:ByteArray)++enc s).size<(bst text s).size then (⟨#[2]⟩:ByteArray)++enc s else bst text s:=by
 have e2:∀ r,mnK (((⟨#[0]⟩:ByteArray)++text) :: ((⟨#[1]⟩:ByteArray)++s) :: r) 2=bst text s:=by
  intro r;rw [mnK,Zmi];show (if ((⟨#[1]⟩:ByteArray)++s).size<((⟨#[0]⟩:ByteArray)++text).size then (⟨#[1]⟩:ByteArray)++s else (⟨#[0]⟩:ByteArray)++text)=_;rw [Zv,Zv,bst];by_cases h:s.size<text.size
  ·rw [if_pos (by omega),if_pos h]
  ·rw [if_neg (by omega),if_neg h]
 unfold bks;by_cases h0:s.size=0
 ·rw [if_pos h0,if_pos h0];exact e2 []
 ·rw [if_neg h0,if_neg h0];show mnK _ 3=_;rw [mnK,e2];rfl
end Bk
theorem ZaQ (dict text:ByteArray) (hd:dict.size<=256) (ht:text.size<=512) (ad:Option Addr) (cap:Nat) (w:World) (h:SlAt w ad (Tk.P (dict++text) dict.size dict.size)) :
 Calls Tryz.prog 133 #[.slice ad (Tk.P (dict++text) dict.size dict.size).length cap] w fun e w'=>e=.returned (.string (Bk.tk dict text))/\Below w.heap.size w w' :=
 Zhf ad cap _ w h (Zbp (Zbq dict text hd ht).1)
theorem ZkR (dict text s:ByteArray) (w:World) (hd:dict.size<=256) (ht:text.size<=512) (hS:Bk.tk dict text=s) (hs:s.size<=1024) (hp:s.size<text.size) (hz:s.size=0) :
 Calls Tryz.prog 96 #[.string dict,.string text] w fun e w'=>e=.returned (.string ((⟨#[1]⟩:ByteArray)++s))/\Below w.heap.size w w':=by
 have c1:=fun w=>ZaP dict text w hd ht
 have c2:=fun ad cap w h=>ZaQ dict text hd ht ad cap w h
 rw [hS] at c2;have c3:=fun w=>Zbo s w hs
 have z2:=Bk.Zbs s hs;have x0:=Bk.Zv 0 text;have x1:=Bk.Zv 1 s;have x2:=Bk.Zv 2 (Bk.enc s);generalize Tk.P (dict++text) dict.size dict.size=L at *;generalize (⟨#[2]⟩:ByteArray)++Bk.enc s=T at *;generalize Bk.enc s=En at *;have hT:T.size<=20000:=by omega
 have hT':(T.size:Int)<=20000:=by omega
 have hs':(s.size:Int)<=1024:=by omega
 have ht':(text.size:Int)<=512:=by omega
 have hw1:wrap64 ((s.size:Int)+1)=(s.size:Int)+1:=w64 (by omega) (by omega);have hp1:decide ((s.size:Int)+1<(text.size:Int)+1)=true:=by simp;omega
 have hp3:decide ((s.size:Int)<(text.size:Int))=true:=by simp;omega
 have hp2:decide ((s.size:Int)+1<1+(text.size:Int))=true:=by simp;omega
 have hp4:(s.size:Int)+1<1+(text.size:Int):=by omega
 have hs0:s=⟨#[]⟩:=by
  apply ByteArray.ext;exact Array.eq_empty_of_size_eq_zero hz
 have hem:s.toList.isEmpty=true:=by rw [hs0,ByteArray.toList_eq];rfl
 clear hs0 hS hz c3;clear hp hd ht hs x0 x1;go_enter Tryz.func96,Tryz.ntmps96
 go_wp2_with fail
 refine (c1 _).mono ?_;rintro e w1 ⟨G1,ad,cap,rfl,S1⟩;go_wp2_with fail
 refine (c2 ad cap _ S1).mono ?_;rintro e w2 ⟨rfl,G2⟩;have B2:=bch G1 G2 (nl _);clear G1 G2 S1 c1 c2;go_wp2_with fail
 go_ret
 exact ⟨rfl,B2⟩
theorem ZlD (dict text s:ByteArray) (w:World) (hd:dict.size<=256) (ht:text.size<=512) (hS:Bk.tk dict text=s) (hs:s.size<=1024) (hp:¬ s.size<text.size) (hz:s.size=0) :
 Calls Tryz.prog 96 #[.string dict,.string text] w fun e w'=>e=.returned (.string ((⟨#[0]⟩:ByteArray)++text))/\Below w.heap.size w w':=by
 have c1:=fun w=>ZaP dict text w hd ht
 have c2:=fun ad cap w h=>ZaQ dict text hd ht ad cap w h
 rw [hS] at c2;have c3:=fun w=>Zbo s w hs
 have z2:=Bk.Zbs s hs;have x0:=Bk.Zv 0 text;have x1:=Bk.Zv 1 s;have x2:=Bk.Zv 2 (Bk.enc s);generalize Tk.P (dict++text) dict.size dict.size=L at *;generalize (⟨#[2]⟩:ByteArray)++Bk.enc s=T at *;generalize Bk.enc s=En at *;have hT:T.size<=20000:=by omega
 have hT':(T.size:Int)<=20000:=by omega
 have hs':(s.size:Int)<=1024:=by omega
 have ht':(text.size:Int)<=512:=by omega
 have hw1:wrap64 ((s.size:Int)+1)=(s.size:Int)+1:=w64 (by omega) (by omega);have hp1:decide ((s.size:Int)+1<(text.size:Int)+1)=false:=by simp;omega
 have hp3:decide ((s.size:Int)<(text.size:Int))=false:=by simp;omega
 have hp2:decide ((s.size:Int)+1<1+(text.size:Int))=false:=by simp;omega
 have hp4:1+(text.size:Int)<=(s.size:Int)+1:=by omega
 have hs0:s=⟨#[]⟩:=by
  apply ByteArray.ext;exact Array.eq_empty_of_size_eq_zero hz
 have hem:s.toList.isEmpty=true:=by rw [hs0,ByteArray.toList_eq];rfl
 clear hs0 hS hz c3;clear hp hd ht hs x0 x1;go_enter Tryz.func96,Tryz.ntmps96
 go_wp2_with fail
 refine (c1 _).mono ?_;rintro e w1 ⟨G1,ad,cap,rfl,S1⟩;go_wp2_with fail
 refine (c2 ad cap _ S1).mono ?_;rintro e w2 ⟨rfl,G2⟩;have B2:=bch G1 G2 (nl _);clear G1 G2 S1 c1 c2;go_wp2_with fail
 go_ret
 exact ⟨rfl,B2⟩
theorem ZkU (dict text s:ByteArray) (w:World) (hd:dict.size<=256) (ht:text.size<=512) (hS:Bk.tk dict text=s) (hs:s.size<=1024) (hp:s.size<text.size) (hz:s.size ≠ 0) (hr:(Bk.enc s).size+1<s.size+1) :
 Calls Tryz.prog 96 #[.string dict,.string text] w fun e w'=>e=.returned (.string ((⟨#[2]⟩:ByteArray)++Bk.enc s))/\Below w.heap.size w w':=by
 have c1:=fun w=>ZaP dict text w hd ht
 have c2:=fun ad cap w h=>ZaQ dict text hd ht ad cap w h
 rw [hS] at c2;have c3:=fun w=>Zbo s w hs
 have z2:=Bk.Zbs s hs;have x0:=Bk.Zv 0 text;have x1:=Bk.Zv 1 s;have x2:=Bk.Zv 2 (Bk.enc s);generalize Tk.P (dict++text) dict.size dict.size=L at *;generalize (⟨#[2]⟩:ByteArray)++Bk.enc s=T at *;generalize Bk.enc s=En at *;have hT:T.size<=20000:=by omega
 have hT':(T.size:Int)<=20000:=by omega
 have hs':(s.size:Int)<=1024:=by omega
 have ht':(text.size:Int)<=512:=by omega
 have hw1:wrap64 ((s.size:Int)+1)=(s.size:Int)+1:=w64 (by omega) (by omega);have hp1:decide ((s.size:Int)+1<(text.size:Int)+1)=true:=by simp;omega
 have hp3:decide ((s.size:Int)<(text.size:Int))=true:=by simp;omega
 have hp2:decide ((s.size:Int)+1<1+(text.size:Int))=true:=by simp;omega
 have hp4:(s.size:Int)+1<1+(text.size:Int):=by omega
 have hem:s.toList.isEmpty=false:=by
  rw [ByteArray.toList_eq]
  cases hq:s.data.toList with
  | nil=>exact absurd (by rw [<-Cd.Zf,hq];rfl) hz
  | cons a b=>rfl
 have hr1:decide ((T.size:Int)<1+(s.size:Int))=true:=by rw [x2];simp;omega
 have hr2:(T.size:Int)<1+(s.size:Int):=by omega
 clear hS hr hz x2 z2;clear hp hd ht hs x0 x1;go_enter Tryz.func96,Tryz.ntmps96
 go_wp2_with fail
 refine (c1 _).mono ?_;rintro e w1 ⟨G1,ad,cap,rfl,S1⟩;go_wp2_with fail
 refine (c2 ad cap _ S1).mono ?_;rintro e w2 ⟨rfl,G2⟩;have B2:=bch G1 G2 (nl _);clear G1 G2 S1 c1 c2;go_wp2_with fail
 refine (c3 _).mono ?_;rintro e w3 ⟨rfl,G3⟩;have B3:=bch B2 G3 (nl _);clear B2 G3 c3;go_wp2_with fail
 go_ret
 exact ⟨rfl,B3⟩
theorem Zlz (dict text s:ByteArray) (w:World) (hd:dict.size<=256) (ht:text.size<=512) (hS:Bk.tk dict text=s) (hs:s.size<=1024) (hp:s.size<text.size) (hz:s.size ≠ 0) (hr:¬ (Bk.enc s).size+1<s.size+1) :
 Calls Tryz.prog 96 #[.string dict,.string text] w fun e w'=>e=.returned (.string ((⟨#[1]⟩:ByteArray)++s))/\Below w.heap.size w w':=by
 have c1:=fun w=>ZaP dict text w hd ht
 have c2:=fun ad cap w h=>ZaQ dict text hd ht ad cap w h
 rw [hS] at c2;have c3:=fun w=>Zbo s w hs
 have z2:=Bk.Zbs s hs;have x0:=Bk.Zv 0 text;have x1:=Bk.Zv 1 s;have x2:=Bk.Zv 2 (Bk.enc s);generalize Tk.P (dict++text) dict.size dict.size=L at *;generalize (⟨#[2]⟩:ByteArray)++Bk.enc s=T at *;generalize Bk.enc s=En at *;have hT:T.size<=20000:=by omega
 have hT':(T.size:Int)<=20000:=by omega
 have hs':(s.size:Int)<=1024:=by omega
 have ht':(text.size:Int)<=512:=by omega
 have hw1:wrap64 ((s.size:Int)+1)=(s.size:Int)+1:=w64 (by omega) (by omega);have hp1:decide ((s.size:Int)+1<(text.size:Int)+1)=true:=by simp;omega
 have hp3:decide ((s.size:Int)<(text.size:Int))=true:=by simp;omega
 have hp2:decide ((s.size:Int)+1<1+(text.size:Int))=true:=by simp;omega
 have hp4:(s.size:Int)+1<1+(text.size:Int):=by omega
 have hem:s.toList.isEmpty=false:=by
  rw [ByteArray.toList_eq]
  cases hq:s.data.toList with
  | nil=>exact absurd (by rw [<-Cd.Zf,hq];rfl) hz
  | cons a b=>rfl
 have hr1:decide ((T.size:Int)<1+(s.size:Int))=false:=by rw [x2];simp;omega
 have hr2:1+(s.size:Int)<=(T.size:Int):=by omega
 clear hS hr hz x2 z2;clear hp hd ht hs x0 x1;go_enter Tryz.func96,Tryz.ntmps96
 go_wp2_with fail
 refine (c1 _).mono ?_;rintro e w1 ⟨G1,ad,cap,rfl,S1⟩;go_wp2_with fail
 refine (c2 ad cap _ S1).mono ?_;rintro e w2 ⟨rfl,G2⟩;have B2:=bch G1 G2 (nl _);clear G1 G2 S1 c1 c2;go_wp2_with fail
 refine (c3 _).mono ?_;rintro e w3 ⟨rfl,G3⟩;have B3:=bch B2 G3 (nl _);clear B2 G3 c3;go_wp2_with fail
 go_ret
 exact ⟨rfl,B3⟩
theorem ZlI (dict text s:ByteArray) (w:World) (hd:dict.size<=256) (ht:text.size<=512) (hS:Bk.tk dict text=s) (hs:s.size<=1024) (hp:¬ s.size<text.size) (hz:s.size ≠ 0) (hr:(Bk.enc s).size+1<text.size+1) :
 Calls Tryz.prog 96 #[.string dict,.string text] w fun e w'=>e=.returned (.string ((⟨#[2]⟩:ByteArray)++Bk.enc s))/\Below w.heap.size w w':=by
 have c1:=fun w=>ZaP dict text w hd ht
 have c2:=fun ad cap w h=>ZaQ dict text hd ht ad cap w h
 rw [hS] at c2;have c3:=fun w=>Zbo s w hs
 have z2:=Bk.Zbs s hs;have x0:=Bk.Zv 0 text;have x1:=Bk.Zv 1 s;have x2:=Bk.Zv 2 (Bk.enc s);generalize Tk.P (dict++text) dict.size dict.size=L at *;generalize (⟨#[2]⟩:ByteArray)++Bk.enc s=T at *;generalize Bk.enc s=En at *;have hT:T.size<=20000:=by omega
 have hT':(T.size:Int)<=20000:=by omega
 have hs':(s.size:Int)<=1024:=by omega
 have ht':(text.size:Int)<=512:=by omega
 have hw1:wrap64 ((s.size:Int)+1)=(s.size:Int)+1:=w64 (by omega) (by omega);have hp1:decide ((s.size:Int)+1<(text.size:Int)+1)=false:=by simp;omega
 have hp3:decide ((s.size:Int)<(text.size:Int))=false:=by simp;omega
 have hp2:decide ((s.size:Int)+1<1+(text.size:Int))=false:=by simp;omega
 have hp4:1+(text.size:Int)<=(s.size:Int)+1:=by omega
 have hem:s.toList.isEmpty=false:=by
  rw [ByteArray.toList_eq]
  cases hq:s.data.toList with
  | nil=>exact absurd (by rw [<-Cd.Zf,hq];rfl) hz
  | cons a b=>rfl
 have hr1:decide ((T.size:Int)<1+(text.size:Int))=true:=by rw [x2];simp;omega
 have hr2:(T.size:Int)<1+(text.size:Int):=by omega
 clear hS hr hz x2 z2;clear hp hd ht hs x0 x1;go_enter Tryz.func96,Tryz.ntmps96
 go_wp2_with fail
 refine (c1 _).mono ?_;rintro e w1 ⟨G1,ad,cap,rfl,S1⟩;go_wp2_with fail
 refine (c2 ad cap _ S1).mono ?_;rintro e w2 ⟨rfl,G2⟩;have B2:=bch G1 G2 (nl _);clear G1 G2 S1 c1 c2;go_wp2_with fail
 refine (c3 _).mono ?_;rintro e w3 ⟨rfl,G3⟩;have B3:=bch B2 G3 (nl _);clear B2 G3 c3;go_wp2_with fail
 go_ret
 exact ⟨rfl,B3⟩
theorem ZkC (dict text s:ByteArray) (w:World) (hd:dict.size<=256) (ht:text.size<=512) (hS:Bk.tk dict text=s) (hs:s.size<=1024) (hp:¬ s.size<text.size) (hz:s.size ≠ 0) (hr:¬ (Bk.enc s).size+1<text.size+1) :
 Calls Tryz.prog 96 #[.string dict,.string text] w fun e w'=>e=.returned (.string ((⟨#[0]⟩:ByteArray)++text))/\Below w.heap.size w w':=by
 have c1:=fun w=>ZaP dict text w hd ht
 have c2:=fun ad cap w h=>ZaQ dict text hd ht ad cap w h
 rw [hS] at c2;have c3:=fun w=>Zbo s w hs
 have z2:=Bk.Zbs s hs;have x0:=Bk.Zv 0 text;have x1:=Bk.Zv 1 s;have x2:=Bk.Zv 2 (Bk.enc s);generalize Tk.P (dict++text) dict.size dict.size=L at *;generalize (⟨#[2]⟩:ByteArray)++Bk.enc s=T at *;generalize Bk.enc s=En at *;have hT:T.size<=20000:=by omega
 have hT':(T.size:Int)<=20000:=by omega
 have hs':(s.size:Int)<=1024:=by omega
 have ht':(text.size:Int)<=512:=by omega
 have hw1:wrap64 ((s.size:Int)+1)=(s.size:Int)+1:=w64 (by omega) (by omega);have hp1:decide ((s.size:Int)+1<(text.size:Int)+1)=false:=by simp;omega
 have hp3:decide ((s.size:Int)<(text.size:Int))=false:=by simp;omega
 have hp2:decide ((s.size:Int)+1<1+(text.size:Int))=false:=by simp;omega
 have hp4:1+(text.size:Int)<=(s.size:Int)+1:=by omega
 have hem:s.toList.isEmpty=false:=by
  rw [ByteArray.toList_eq]
  cases hq:s.data.toList with
  | nil=>exact absurd (by rw [<-Cd.Zf,hq];rfl) hz
  | cons a b=>rfl
 have hr1:decide ((T.size:Int)<1+(text.size:Int))=false:=by rw [x2];simp;omega
 have hr2:1+(text.size:Int)<=(T.size:Int):=by omega
 clear hS hr hz x2 z2;clear hp hd ht hs x0 x1;go_enter Tryz.func96,Tryz.ntmps96
 go_wp2_with fail
 refine (c1 _).mono ?_;rintro e w1 ⟨G1,ad,cap,rfl,S1⟩;go_wp2_with fail
 refine (c2 ad cap _ S1).mono ?_;rintro e w2 ⟨rfl,G2⟩;have B2:=bch G1 G2 (nl _);clear G1 G2 S1 c1 c2;go_wp2_with fail
 refine (c3 _).mono ?_;rintro e w3 ⟨rfl,G3⟩;have B3:=bch B2 G3 (nl _);clear B2 G3 c3;go_wp2_with fail
 go_ret
 exact ⟨rfl,B3⟩
theorem ZoC (dict text:ByteArray) (w:World) (hd:dict.size<=256) (ht:text.size<=512) :
 Calls Tryz.prog 96 #[.string dict,.string text] w fun e w'=>e=.returned (.string (Bk.pak dict text).1)/\Below w.heap.size w w':=by
 have e:(Bk.pak dict text).1=Bk.mnK (Bk.bks text (Bk.tk dict text)) (Bk.bks text (Bk.tk dict text)).length:=by rw [Bk.pak,if_neg (by omega)]
 rw [e,Bk.ZsW];have hs:=Bk.Zig hd ht;have h1:=Bk.Zv 1 (Bk.tk dict text);have h0:=Bk.Zv 0 text;have h2:=Bk.Zv 2 (Bk.enc (Bk.tk dict text));unfold Bk.bst;by_cases hp:(Bk.tk dict text).size<text.size
 ·rw [if_pos hp];by_cases hz:(Bk.tk dict text).size=0
  ·rw [if_pos hz];exact ZkR dict text _ w hd ht rfl hs hp hz
  ·rw [if_neg hz];by_cases hr:(Bk.enc (Bk.tk dict text)).size+1<(Bk.tk dict text).size+1
   ·rw [if_pos (by rw [h1,h2];exact hr)];exact ZkU dict text _ w hd ht rfl hs hp hz hr
   ·rw [if_neg (by rw [h1,h2];exact hr)];exact Zlz dict text _ w hd ht rfl hs hp hz hr
 ·rw [if_neg hp];by_cases hz:(Bk.tk dict text).size=0
  ·rw [if_pos hz];exact ZlD dict text _ w hd ht rfl hs hp hz
  ·rw [if_neg hz];by_cases hr:(Bk.enc (Bk.tk dict text)).size+1<text.size+1
   ·rw [if_pos (by rw [h0,h2];exact hr)];exact ZlI dict text _ w hd ht rfl hs hp hz hr
   ·rw [if_neg (by rw [h0,h2];exact hr)];exact ZkC dict text _ w hd ht rfl hs hp hz hr
theorem Zfq (ad af:Option Addr) (cd cf:Nat) (a:Ar.A) (name text:ByteArray) (dict:Int) (w:World) (h:TxSl w ad a.dicts) (hl:a.dicts.length<=8796093022208) (hh:Ar.has a.dicts dict=true) (hd:(Ar.dct a.dicts dict).size<=256) (ht:text.size<=512) :
 Calls Tryz.prog 58 #[av ad cd af cf a,.string name,.string text,.int .i64 dict] w fun e w'=>e=.returned (fv (Ar.pk a.dicts name text dict))/\Below w.heap.size w w':=by
 have hb:=fun o p=>((Below.refl w.heap.size w).alloc (Nat.le_refl _) o).alloc (by simp) p
 have C1:Hid (∀ w',Below w.heap.size w w'->Calls Tryz.prog 63 #[av ad cd af cf a,.int .i64 dict] w' fun e w2=>e=.returned (.string (Ar.dct a.dicts dict))/\Below w'.heap.size w' w2):=fun w' h9=>Zdp ad af cd cf a dict w' (h.below h9) hl hh
 have C2:Hid (∀ w',Calls Tryz.prog 96 #[.string (Ar.dct a.dicts dict),.string text] w' fun e w2=>e=.returned (.string (Bk.pak (Ar.dct a.dicts dict) text).1)/\Below w'.heap.size w' w2):=fun w'=>ZoC _ _ w' hd ht
 have C3:Hid (∀ w',Calls Tryz.prog 64 #[.string text] w' fun e w2=>e=.returned (.int .i64 (Ar.sm text))/\Below w'.heap.size w' w2):=fun w'=>(Zey text w' (by omega)).mono (by rintro e w2 ⟨rfl,rfl⟩;exact ⟨rfl,bR _ _⟩)
 unfold fv Ar.pk;simp only;unfold av at C1 |-
 generalize (Bk.pak (Ar.dct a.dicts dict) text).1=K at *;generalize Ar.dct a.dicts dict=X at *;generalize Ar.sm text=M at *;clear h hh hd;generalize a.dicts.length=D at *;generalize a.files.length=N at *;have hti:(text.size:Int)<=512:=by omega
 go_enter Tryz.func58,Tryz.ntmps58
 go_wp2_with fail
 obtain ⟨kA,kF⟩:=box2 w #[.slice ad D cd,.slice af N cf] #[.string ⟨#[]⟩,.int .i64 0,.int .i64 0,.int .i64 0,.string ⟨#[]⟩] 25 46;have fz:∀ i,((w.alloc (.cells #[.slice ad D cd,.slice af N cf] 25 (0,0))).alloc (.cells #[.string ⟨#[]⟩,.int .i64 0,.int .i64 0,.int .i64 0,.string ⟨#[]⟩] 46 (0,0))).frozen? ⟨w.heap.size+1,i,none⟩=false:=fun i=>World.frozen?_alloc_at _ _ _ _ (by simp)
 have B1:=hb (.cells #[.slice ad D cd,.slice af N cf] 25 (0,0)) (.cells #[.string ⟨#[]⟩,.int .i64 0,.int .i64 0,.int .i64 0,.string ⟨#[]⟩] 46 (0,0));have hz:w.heap.size+1<((w.alloc (.cells #[.slice ad D cd,.slice af N cf] 25 (0,0))).alloc (.cells #[.string ⟨#[]⟩,.int .i64 0,.int .i64 0,.int .i64 0,.string ⟨#[]⟩] 46 (0,0))).heap.size:=by simp
 generalize ((w.alloc (.cells #[.slice ad D cd,.slice af N cf] 25 (0,0))).alloc (.cells #[.string ⟨#[]⟩,.int .i64 0,.int .i64 0,.int .i64 0,.string ⟨#[]⟩] 46 (0,0)))=w1 at *;have hz0:w.heap.size<w1.heap.size:=by omega
 have HS:Hid (∀ w',Below w1.heap.size w1 w'->w'.cell? ⟨w.heap.size,0,none⟩=some (.slice ad D cd)/\w'.cell? ⟨w.heap.size,1,none⟩=some (.slice af N cf)):=fun w' h9=>⟨(h9.cell (p:=⟨w.heap.size,0,none⟩) hz0).trans (kA 0),(h9.cell (p:=⟨w.heap.size,1,none⟩) hz0).trans (kA 1)⟩
 have HK:Hid (∀ w',Below w1.heap.size w1 w'->w'.cell? ⟨w.heap.size+1,0,none⟩=some (.string ⟨#[]⟩)/\w'.cell? ⟨w.heap.size+1,1,none⟩=some (.int .i64 0)/\w'.cell? ⟨w.heap.size+1,2,none⟩=some (.int .i64 0)/\w'.cell? ⟨w.heap.size+1,3,none⟩=some (.int .i64 0)/\w'.cell? ⟨w.heap.size+1,4,none⟩=some (.string ⟨#[]⟩)
  ∧ w'.frozen? ⟨w.heap.size+1,0,none⟩=false/\w'.frozen? ⟨w.heap.size+1,1,none⟩=false/\w'.frozen? ⟨w.heap.size+1,2,none⟩=false/\w'.frozen? ⟨w.heap.size+1,3,none⟩=false/\w'.frozen? ⟨w.heap.size+1,4,none⟩=false):=fun w' h9 =>
  ⟨(h9.cell (p:=⟨w.heap.size+1,0,none⟩) hz).trans (kF 0),(h9.cell (p:=⟨w.heap.size+1,1,none⟩) hz).trans (kF 1),(h9.cell (p:=⟨w.heap.size+1,2,none⟩) hz).trans (kF 2),(h9.cell (p:=⟨w.heap.size+1,3,none⟩) hz).trans (kF 3),(h9.cell (p:=⟨w.heap.size+1,4,none⟩) hz).trans (kF 4),
   (h9.frozen (p:=⟨w.heap.size+1,0,none⟩) hz).trans (fz 0),(h9.frozen (p:=⟨w.heap.size+1,1,none⟩) hz).trans (fz 1),(h9.frozen (p:=⟨w.heap.size+1,2,none⟩) hz).trans (fz 2),(h9.frozen (p:=⟨w.heap.size+1,3,none⟩) hz).trans (fz 3),(h9.frozen (p:=⟨w.heap.size+1,4,none⟩) hz).trans (fz 4)⟩
 have HS5:Hid (∀ w',Below w1.heap.size w1 w'->(fun w9=>w9.cell? ⟨w.heap.size,0,none⟩=some (.slice ad D cd)/\w9.cell? ⟨w.heap.size,1,none⟩=some (.slice af N cf)) (w5s w' (w.heap.size+1) 0 (.string name) (.int .i64 dict) (.int .i64 (text.size:Int)) (.int .i64 M) (.string K))):=fun w' h9=>by
  obtain ⟨e0,e1⟩:=HS.out w' h9;have gr:=Zda w' (w.heap.size+1) 0 (.string name) (.int .i64 dict) (.int .i64 (text.size:Int)) (.int .i64 M) (.string K);exact ⟨Ze gr e0 (by simp),Ze gr e1 (by simp)⟩
 have C1':Hid (∀ w',Below w1.heap.size w1 w'->Calls Tryz.prog 63 #[.agg #[.slice ad D cd,.slice af N cf],.int .i64 dict] w' fun e w2=>e=.returned (.string X)/\Below w'.heap.size w' w2):=fun w' h9=>C1.out w' (bch B1 h9 (nl _))
 clear kA kF fz C1;unfold w5s at HS5;simp only [Nat.zero_add] at HS5;go_region_held3 (fun w'=>w'.cell? ⟨w.heap.size,0,none⟩=some (.slice ad D cd)/\w'.cell? ⟨w.heap.size,1,none⟩=some (.slice af N cf))
  (first | (exact HS.out _ ((bR _ _).drew)) | (exact HS.out _ B4) | (exact HS.out _ B5) | (exact HS.out _ B6) | (exact HS5.out _ B6))
  (first
   | (go_at_call 64;refine (C3.out _).mono ?_;rintro e w4 ⟨rfl,G4⟩;have B4:Below w1.heap.size w1 w4:=bch ((bR _ _).drew) G4 (nl _))
   | (go_at_call 63;refine (C1'.out _ B4).mono ?_;rintro e w5 ⟨rfl,G5⟩;have B5:Below w1.heap.size w1 w5:=bch B4 G5 (nl _))
   | (go_at_call 96;refine (C2.out _).mono ?_;rintro e w6 ⟨rfl,G6⟩;have B6:Below w1.heap.size w1 w6:=bch B5 G6 (nl _);obtain ⟨l0,l1,l2,l3,l4,lf0,lf1,lf2,lf3,lf4⟩:=HK.out w6 B6))
 all_goals
  obtain ⟨k0,k1,k2,k3,k4⟩:=set5 (o:=0) (.string name) (.int .i64 dict) (.int .i64 (text.size:Int)) (.int .i64 M) (.string K) l0 l1 l2 l3 l4;have B7:=Zgh (bch B1 B6 (Nat.le_refl _)) (w.heap.size+1) 0 (.string name) (.int .i64 dict) (.int .i64 (text.size:Int)) (.int .i64 M) (.string K) (by omega);unfold w5s at k0 k1 k2 k3 k4 B7;simp only [Nat.zero_add] at k0 k1 k2 k3 k4 B7;generalize (((((w6.setCell ⟨w.heap.size+1,0,none⟩ (.string name)).setCell ⟨w.heap.size+1,1,none⟩ (.int .i64 dict)).setCell ⟨w.heap.size+1,2,none⟩ (.int .i64 (text.size:Int))).setCell ⟨w.heap.size+1,3,none⟩ (.int .i64 M)).setCell ⟨w.heap.size+1,4,none⟩ (.string K))=wz at *;clear l0 l1 l2 l3 l4 lf0 lf1 lf2 lf3 lf4 HS5 HS HK B6 B5 B4 G4 G5 G6;go_wp2_with fail
  exact bodyPost_ret (v:=.agg #[.string name,.int .i64 dict,.int .i64 (text.size:Int),.int .i64 M,.string K]) (by simp [results,Tryz.results58,go_sem,k0,k1,k2,k3,k4]) rfl ⟨rfl,B7⟩
end Go.Proofs.YtbjbjbpgmojcbabGreat
