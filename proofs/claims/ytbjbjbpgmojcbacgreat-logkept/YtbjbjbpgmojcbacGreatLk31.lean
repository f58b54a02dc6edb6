/- A part of the proof: what it leans on. -/
import Derived.Great.BuildSlice
import Derived.Test.YtbjbjbpgmojcbacGreatLk11
import Derived.Test.YtbjbjbpgmojcbacGreatLk14
namespace Go.Proofs.YtbjbjbpgmojcbacGreat
open Go.RowKit
def tr0:Tr:=⟨fun _=>false,0⟩
theorem ZeC:(Tryz.prog.info? 195).map (fun i=>(i.zero,i.size,i.bytes))=some (some (.agg (trc tr0)),17,24):=by kernel_rfl
theorem Zml (t:Tr):Instr.fill (fun i=>some (i*17,17)) ((Array.range (1*17)).map ((Value.agg (trc tr0)).cells[· % (Value.agg (trc tr0)).cells.size]!)) [(0,.agg (trc t))]=some (trc t):=by kernel_rfl
def flat (l:List Tr):List Value:=l.flatMap fun t=>(trc t).toList
theorem Zbr (a b:List Tr):flat (a++b)=flat a++flat b:=by simp [flat]
theorem ZdM (t:Tr):flat [t]=(trc t).toList:=by simp [flat]
theorem ZdA (l:List Tr):(flat l).length=l.length*17:=by
 induction l with
 | nil=>rfl
 | cons t l ih =>
  have:flat (t :: l)=(trc t).toList++flat l:=by simp [flat]
  rw [this,List.length_append,ih,Array.length_toList,Zah,List.length_cons];omega
def tl (l:List Tr) (i:Nat):Tr:=l.getD i tr0
theorem Zrk (l:List Tr) (i j:Nat) (hi:i<l.length) (hj:j<17):(flat l)[i*17+j]?=(trc (tl l i)).toList[j]?:=by
 have e:l=l.take i++([tl l i]++l.drop (i+1)):=by
  have h1:tl l i=l[i]:=by simp [tl,List.getD_eq_getElem?_getD,List.getElem?_eq_getElem hi]
  rw [h1];simp
 have hlen:(flat (l.take i)).length=i*17:=by rw [ZdA,List.length_take,Nat.min_eq_left (by omega)]
 have:flat l=flat (l.take i)++(flat [tl l i]++flat (l.drop (i+1))):=by rw [<-Zbr,<-Zbr,<-e]
 rw [this,List.getElem?_append_right (by omega),hlen,show i*17+j - i*17=j by omega,ZdM,List.getElem?_append_left (by rw [Array.length_toList,Zah];exact hj)]
theorem Zbb {w:World} {g:Nat} {l:List Tr} (h:w.rangeAt g 0 (flat l)) {i:Nat} (hi:i<l.length):w.rangeAt g (i*17) (trc (tl l i)).toList:=fun j v hj=>by
 have hj17:j<17:=by
  have:=(List.getElem?_eq_some_iff.1 hj).1
  rwa [Array.length_toList,Zah] at this
 rw [<-Zrk l i j hi hj17] at hj;have:=h (i*17+j) v hj
 rwa [Nat.zero_add] at this
theorem Zci {w w':World} {g o:Nat} {cs:List Value} (h:w.rangeAt g o cs) (hb:Below w.heap.size w w') (hg:g<w.heap.size):w'.rangeAt g o cs:=fun j v hj=>by
 have:=h j v hj;rw [<-this];exact hb.cell (p:=⟨g,o+j,none⟩) hg
theorem Zet {w:World} {base n:Nat} {v:Value} {l:List Tr} (h:w.ownsRow base 195 17 v n (flat l)) (hl:l ≠ []):∃ g cap,v=.slice (some ⟨g,0,none⟩) l.length cap/\base<=g/\g<w.heap.size/\w.rangeAt g 0 (flat l):=by
 have hlen:=h.1;rw [ZdA] at hlen;obtain rfl:l.length=n:=by omega
 rcases h.2 with ⟨_,h0⟩ | ⟨g,cap,cur,rfl,hb,hg,hnc,hcm,hcs,htk⟩
 ·exact absurd (List.eq_nil_of_length_eq_zero h0) hl
 ·refine ⟨g,cap,rfl,hb,(aG.1 hg).1,fun j v hj=>?_⟩;rw [Nat.zero_add,cell_of_row w g j _ _ _ hg,<-hj,<-htk];have hj2:=(List.getElem?_eq_some_iff.1 hj).1;rw [ZdA] at hj2;rw [List.getElem?_take,if_pos hj2];simp
namespace Cd
def kF (l:List Tr):Nat->Nat
 | 0=>0
 | i+1=>if lgt (tl l i) (tl l (kF l i))=true then i else kF l i
theorem ZtB (l:List Tr):∀ i,kF l i<=i - 1:=by
 intro i
 induction i with
 | zero=>simp [kF]
 | succ i ih =>
  rw [kF];split <;> omega
theorem ZiP (t:Tr):lgt t t=false:=by simp [lgt]
theorem Zul (l:List Tr):kF l 1=0:=by rw [kF,kF,ZiP];rfl
def rK (l:List Tr) (k:Nat):Nat->List Tr
 | 0=>[]
 | i+1=>if i=k then rK l k i else rK l k i++[tl l i]
theorem Ztn (l:List Tr) (k:Nat):∀ i,(rK l k i).length<=i:=by
 intro i
 induction i with
 | zero=>simp [rK]
 | succ i ih =>
  rw [rK];split
  ·omega
  ·simp;omega
end Cd
theorem Zrb:(#[.bool false,.bool false,.bool false,.bool false,.bool false,.bool false,.bool false,.bool false,.bool false,.bool false,.bool false,.bool false,.bool false,.bool false,.bool false,.bool false,.int .i64 0]:Array Value)=trc tr0:=rfl
theorem Ztw (w:World) (t:Tr):∀ j u,(trc t).toList[j]?=some u->(w.alloc (.cells (trc t) 195)).cell? ((⟨w.heap.size,0,none⟩:Addr).add j)=some u:=fun j u h=>by
 rw [Addr.add_mid,Nat.zero_add,cell_of_row _ w.heap.size j _ _ _ (heap_alloc_last w _)];simpa using h
theorem ZuH (t:Tr):(trc t).toList.length=1*17:=by rw [Array.length_toList,Zah]
theorem ZuC (t:Tr):∀ u ∈ (trc t).toList,u.oneCell'=true:=by
 have:=ZcW t;rw [Array.all_eq_true_iff_forall_mem] at this;intro u hu;exact this u (by simpa using hu)
theorem ZhJ {w w':World} {g o:Nat} {cs:List Value} (h:w.rangeAt g o cs) (he:w'.heap[g]?=w.heap[g]?):w'.rangeAt g o cs:=fun j v hj=>by
 have:=h j v hj;simp only [World.cell?,he] at this |-
 exact this
theorem ZaQ {w w1:World} {g:Nat} {v:Value} {o:Obj} (hlt:g<w.heap.size) (hne:some g ≠ v.ownBlock) (hg:(w.alloc o).grownBy w1 v.ownBlock):w1.heap[g]?=w.heap[g]?:=by
 rw [hg.block g (by simp;omega) hne];exact ((bR w.heap.size w).alloc (nl _) o).block g hlt
theorem TrAt.block {w w':World} {g:Nat} {t:Tr} (H:TrAt w g t) (he:w'.heap[g]?=w.heap[g]?):TrAt w' g t:=by
 have h2:=he.trans H.2;exact ⟨(aG.1 h2).1,h2⟩
theorem TrAt.setRow {w:World} {g:Nat} {t:Tr} (H:TrAt w g t) (t':Tr):TrAt (w.setRow g (trc t')) g t':=by
 refine ⟨by have:=H.1;simpa [World.setRow] using this,?_⟩;show (w.heap.modify g _)[g]?=_;rw [Array.getElem?_modify,if_pos rfl,H.2];rfl
theorem Zkx {w:World} {base g:Nat} {t:TypeId} {sz n:Nat} {v:Value} {cs:List Value} (ho:w.ownsRow (g+1) t sz v n cs) (hb:base<=g+1) (c:Array Value):(w.setRow g c).ownsRow base t sz v n cs:=by
 refine ⟨ho.1,?_⟩;rcases ho.2 with h0 | ⟨q,cap,cur,rfl,e1,e2,e3⟩
 ·exact .inl h0
 ·refine .inr ⟨q,cap,cur,rfl,by omega,?_,e3⟩;show (w.heap.modify g _)[q]?=_;rw [Array.getElem?_modify,if_neg (by omega),e2]
theorem ZaF {ops:Array Oper} {rest:List Oper} {op:Oper} {a:Act} {w:World} {Q:Exit->Act->World->Prop} (hgd:op.guard=none) (x:Operand) (ho:op.op=.load 195 x)
 (b o:Nat) (hx:a.eval x=.pointer (some ⟨b,o,none⟩)) (t:Tr) (hc:w.rangeAt b o (trc t).toList) (h:wpList Tryz.prog ops Q rest (a.put op.dst (.agg (trc t))) w):wpList Tryz.prog ops Q (op :: rest) a w :=
 wpList_load_mid hgd 195 x ho b o hx (trc t).toList _ hc U195 rfl (by rw [Array.length_toList];exact ZR t) (by rw [Array.toArray_toList];exact h)
theorem Zau {ops:Array Oper} {rest:List Oper} {o:Oper} {a:Act} {w:World} {Q:Exit->Act->World->Prop} (hg:o.guard=none) (x:Operand) (ho:o.op=.buildSlice 192 1 #[(0,x)]) (t:Tr) (hx:a.eval x=.agg (trc t))
 (h:wpList Tryz.prog ops Q rest (a.put o.dst (.slice (some ⟨w.heap.size,0,none⟩) 1 1)) (w.alloc (.cells (trc t) 195))):wpList Tryz.prog ops Q (o :: rest) a w:=by
 obtain ⟨i0,hi,hz0,hz1,hz2⟩:=info_parts ZeC;refine wpList_buildSlice hg 192 195 1 _ ho (trc t) i0 (.agg (trc tr0)) U192 hi hz0 (by rw [hz1];decide) (by rw [hz1];decide) ?_ h;rw [hz1];have:=Zml t;simp only [List.map_toArray,List.map_cons,List.map_nil,hx];exact this
theorem Zaq {ops:Array Oper} {rest:List Oper} {o:Oper} {a:Act} {w:World} {Q:Exit->Act->World->Prop} (hgd:o.guard=none) (s x:Operand)
 (ho:o.op=.call { callee:=.builtin .append,args:=#[s,x],argTypes:=#[192,192] })
 (base:Nat) (v:Value) (l:List Tr) (hs:a.eval s=v) (hown:w.ownsRow base 195 17 v l.length (flat l)) (t:Tr) (hx:a.eval x=.slice (some ⟨w.heap.size,0,none⟩) 1 1)
 (hl:l.length<=1000) (hbase:base<=w.heap.size)
 (h:∀ v' w',w'.ownsRow base 195 17 v' (l++[t]).length (flat (l++[t]))->(w.alloc (.cells (trc t) 195)).grownBy w' v.ownBlock->wpList Tryz.prog ops Q rest (a.put o.dst v') w'):wpList Tryz.prog ops Q (o :: rest) a (w.alloc (.cells (trc t) 195)):=by
 obtain ⟨i0,hi,hz0,hz1,hz2⟩:=info_parts ZeC;refine wpList_append_own _ hgd s x 192 ho base 195 i0 (.agg (trc tr0)) 17 24 U192 hi hz0 hz1 hz2 (Zah _) (by decide) v l.length (flat l) hs (hown.alloc _) ⟨w.heap.size,0,none⟩ 1 1 (trc t).toList hx (ZuH t) (Ztw w t) (ZuC t) (ZaJ (by omega)) (by omega) (by simp;omega) ?_;intro v' w' h1 h2 _;refine h v' w' ?_ h2;rw [Zbr,ZdM,List.length_append];exact h1
set_option maxRecDepth 4000 in
set_option maxHeartbeats 700000 in
theorem ZcL (l:List Tr) (g cap:Nat) (w:World) (hl:1<=l.length) (hl2:l.length<=16) (hg:g<w.heap.size) (hr:w.rangeAt g 0 (flat l)) :
 Calls Tryz.prog 170 #[.slice (some ⟨g,0,none⟩) l.length cap] w fun e w'=>∃ v,e=.returned (.tuple #[.agg (trc (tl l (Cd.kF l l.length))),v])/\Below w.heap.size w w'/\w'.ownsRow w.heap.size 195 17 v (Cd.rK l (Cd.kF l l.length) l.length).length (flat (Cd.rK l (Cd.kF l l.length) l.length)):=by
 obtain ⟨i0,hi,hz0,hz1,hz2⟩:=info_parts ZeC;have A1:=TrAt.new w tr0;have B1:Below w.heap.size w (w.alloc (.cells (trc tr0) 195)):=(bR _ _).alloc (nl _) _;have r1:=Zci hr ((bR w.heap.size w).alloc (nl _) (.cells (trc tr0) 195)) hg;have hl3:(l.length:Int)<=16:=by omega
 obtain ⟨KK,hKK⟩:∃ k,Cd.kF l l.length=k:=⟨_,rfl⟩
 rw [hKK];have HKK:Hid (Cd.kF l l.length=KK):=hKK;clear hKK;go_enter Tryz.func170,Tryz.ntmps170
 go_wp2_with fail
 rw [Zrb];generalize w.alloc (.cells (trc tr0) 195)=w0 at *;clear hr;have HG:Hid (g<w.heap.size):=hg;go_loopw [4,5] (fun kk ii wr=>∃ (i k:Nat),1<=i/\i<=l.length/\k<l.length/\ii=.int .i64 i/\kk=.int .i64 k/\Hid (Cd.kF l i=k)/\wr.rangeAt g 0 (flat l)/\TrAt wr w.heap.size tr0/\Below w.heap.size w wr) (fun _ i _=>20 - (intOf i).toNat)
 case atStart=>exact ⟨1,0,by omega,hl,by omega,rfl,rfl,Cd.Zul l,r1,A1,B1⟩
 case round =>
  clear r1 A1 B1;obtain ⟨i,k,hi1,hi2,hk,rfl,rfl,HK,r1,A1,B1⟩:=hrel;by_cases hlt:i<l.length
  ·have d1:decide ((i:Int)<(l.length:Int))=true:=by simp;omega
   have d1':decide (i<l.length)=true:=by simp;omega
   have hiI:(i:Int)<(l.length:Int):=by omega
   have hkI:(k:Int)<(l.length:Int):=by omega
   have hlg:=fun w=>Zio (tl l i) (tl l k) w
   have HK1:Hid (Cd.kF l (i+1)=if Cd.lgt (tl l i) (tl l k)=true then i else k):=by show _=_;rw [Cd.kF,HK.out]
   generalize Cd.lgt (tl l i) (tl l k)=c at *;have hti:=ZR (tl l i);have htk:=ZR (tl l k);go_wp2_with fail
   refine wp_region_held_drew (S:=fun w'=>w'.rangeAt g 0 (flat l)) (by kernel_rfl) (by simpa using r1) (fun hS=>?_);refine wK (i:=0) (fuel:=8) (v:=.slice (some ⟨g,0,none⟩) l.length cap) rfl (by kernel_rfl) (by kernel_rfl) (by kernel_rfl) (fun _ _ _ h=>h) (Or.inl ⟨by rfl,fun w _=>by go_simp⟩) hS ?_;refine wK (i:=1) (fuel:=7) (v:=.int .i64 (i:Int)) rfl (by kernel_rfl) (by kernel_rfl) (by kernel_rfl) (fun _ _ _ h=>h) (Or.inl ⟨by rfl,fun w _=>by go_simp⟩) hS ?_;refine wK (i:=2) (fuel:=6) (v:=.pointer (some ⟨g,i*17,none⟩)) rfl (by kernel_rfl) (by kernel_rfl) (by kernel_rfl) (fun _ _ _ h=>h) (Or.inl ⟨by rfl,fun w _=>by go_simp⟩) hS ?_;refine wK (i:=3) (fuel:=5) rfl (by kernel_rfl) (by kernel_rfl) (by kernel_rfl) (fun _ _ _ h=>h) (yieldsIf_load_mid (by rfl) 195 _ rfl g (i*17) rfl (trc (tl l i)).toList _ (fun w' h'=>Zbb h' hlt) U195 rfl (by rw [Array.length_toList];exact hti)) hS ?_;refine wK (i:=4) (fuel:=4) (v:=.slice (some ⟨g,0,none⟩) l.length cap) rfl (by kernel_rfl) (by kernel_rfl) (by kernel_rfl) (fun _ _ _ h=>h) (Or.inl ⟨by rfl,fun w _=>by go_simp⟩) hS ?_;refine wK (i:=5) (fuel:=3) (v:=.int .i64 (k:Int)) rfl (by kernel_rfl) (by kernel_rfl) (by kernel_rfl) (fun _ _ _ h=>h) (Or.inl ⟨by rfl,fun w _=>by go_simp⟩) hS ?_;refine wK (i:=6) (fuel:=2) (v:=.pointer (some ⟨g,k*17,none⟩)) rfl (by kernel_rfl) (by kernel_rfl) (by kernel_rfl) (fun _ _ _ h=>h) (Or.inl ⟨by rfl,fun w _=>by go_simp⟩) hS ?_;refine wK (i:=7) (fuel:=1) rfl (by kernel_rfl) (by kernel_rfl) (by kernel_rfl) (fun _ _ _ h=>h) (yieldsIf_load_mid (by rfl) 195 _ rfl g (k*17) rfl (trc (tl l k)).toList _ (fun w' h'=>Zbb h' hk) U195 rfl (by rw [Array.length_toList];exact htk)) hS ?_;refine Zfb (i:=8) (fuel:=0) (by kernel_rfl) (by kernel_rfl) rfl rfl (fun K hK=>?_);go_simp
   refine (hlg _).mono ?_;rintro e w4 ⟨rfl,G4⟩;have r4:=Zci (show wr.drew.rangeAt g 0 (flat l) from hS) G4 (nT HG.out B1.size);have A4:=(show TrAt wr.drew w.heap.size tr0 from A1).below G4;have B4:=bch (show Below w.heap.size w wr.drew from B1.drew) G4 (nl _);clear r1 A1 B1 G4 hlg hS;refine hK _ _ r4 ?_;clear hK
   cases c with
   | true =>
    go_wp2_with fail
    exact ⟨⟨i+1,i,by omega,by omega,by omega,by go_num,rfl,HK1.out,r4,A4,B4⟩,by simp [intOf];omega⟩
   | false =>
    go_wp2_with fail
    exact ⟨⟨i+1,k,by omega,by omega,hk,by go_num,rfl,HK1.out,r4,A4,B4⟩,by simp [intOf];omega⟩
  ·obtain rfl:i=l.length:=by omega
   obtain rfl:KK=k:=HKK.out.symm.trans HK.out;have d1:decide ((l.length:Int)<(l.length:Int))=false:=by simp
   have d1':decide (l.length<l.length)=false:=by simp
   have hkI:(KK:Int)<(l.length:Int):=by omega
   clear hlt HK HKK;go_wp2_with fail
   clear d1 d1';go_loopw [6,7] (fun v i wr=>∃ k:Nat,k<=l.length/\i=.int .i64 k/\wr.ownsRow (w.heap.size+1) 195 17 v (Cd.rK l KK k).length (flat (Cd.rK l KK k))/\wr.rangeAt g 0 (flat l)/\TrAt wr w.heap.size tr0/\Below w.heap.size w wr) (fun _ i _=>20 - (intOf i).toNat)
   case atStart=>exact ⟨0,by omega,rfl,World.ownsRow_nil _ _ _ _,r1,A1,B1⟩
   case round =>
    clear r1 A1 B1;obtain ⟨i,hi2,rfl,ho,r1,A1,B1⟩:=hrel;have hrl:=Cd.Ztn l KK i;by_cases hlt:i<l.length
    ·have d1:decide ((i:Int)<(l.length:Int))=true:=by simp;omega
     have d1':decide (i<l.length)=true:=by simp;omega
     have hiI:(i:Int)<(l.length:Int):=by omega
     by_cases hik:i=KK
     ·have d2:((i:Int) != (KK:Int))=false:=by simp;omega
      have HR:Hid (Cd.rK l KK (i+1)=Cd.rK l KK i):=by show _=_;rw [Cd.rK,if_pos hik]
      clear hik;go_wp2_with fail
      exact ⟨⟨i+1,by omega,by go_num,by rw [HR.out];exact ho,r1,A1,B1⟩,by simp [intOf];omega⟩
     ·have d2:((i:Int) != (KK:Int))=true:=by simp;omega
      have HR:Hid (Cd.rK l KK (i+1)=Cd.rK l KK i++[tl l i]):=by show _=_;rw [Cd.rK,if_neg hik]
      have rt:=Zbb r1 hlt;have hgs:w.heap.size<wr.heap.size:=A1.1;have hgg:g<wr.heap.size:=nT HG.out B1.size;generalize Cd.rK l KK i=rs at *;generalize tl l i=t at *;clear hik;go_wp2_with (first | refine ZaF rfl _ rfl g (i*17) rfl t rt ?_ | refine Zau rfl _ rfl t rfl ?_ | (at_builtin;go_must (refine Zaq rfl _ _ rfl (w.heap.size+1) _ rs rfl ho t rfl (by omega) (by omega) ?_;intro v' w6 hown' hgrow)))
      have hne:∀ q,q<=w.heap.size->some q ≠ Value.ownBlock u6:=fun q hq e=>by have:=(ho.lt q e.symm).1;omega
      have r6:=ZhJ r1 (ZaQ hgg (hne _ (nL HG.out)) hgrow);have A6:=A1.block (ZaQ hgs (hne _ (nl _)) hgrow);have B6:Below w.heap.size w w6:=(B1.alloc B1.size _).grown hgrow (by have:=B1.size;simp;omega) (fun j hj=>by have:=(ho.lt j hj).1;omega);exact ⟨⟨i+1,by omega,by go_num,by rw [HR.out];exact hown',r6,A6,B6⟩,by simp [intOf];omega⟩
    ·obtain rfl:i=l.length:=by omega
     have d1:decide ((l.length:Int)<(l.length:Int))=false:=by simp
     have d1':decide (l.length<l.length)=false:=by simp
     have rt:=Zbb r1 hk;have hti:=ZR (tl l KK);go_wp2_with (first | refine ZaF rfl _ rfl g (KK*17) rfl (tl l KK) rt ?_ | refine wpList_store_row rfl 195 _ _ rfl w.heap.size (trc (tl l KK)) rfl rfl 195 _ A1.2 hti (by rw [Zah,Zah]) (ZcW _) ?_)
     have U2:=A1.setRow (tl l KK);exact bodyPost_ret (v:=.tuple #[.agg (trc (tl l KK)),u6]) (ZI Tryz.results170 _ _ w.heap.size 195 _ (0,0) _ rfl U2.2 U195 rfl hti _ rfl) rfl ⟨_,rfl,Zn B1 (nl _) _,Zkx ho (by omega) _⟩
namespace Cd
def mrg (a b:Tr):Tr:=⟨fun i=>a.h i || b.h i,a.w+b.w⟩
def incr (t:Tr) (L:Nat->Int):Nat->Int:=fun i=>if t.h i=true then L i+1 else L i
def fst (l:List Tr):Tr:=tl l (kF l l.length)
def oth (l:List Tr):List Tr:=rK l (kF l l.length) l.length
def boR:Nat->List Tr->(Nat->Int)->(Nat->Int)
 | 0,_,L=>L
 | n+1,l,L=>if l.length<=1 then L else boR n (oth (oth l)++[mrg (fst l) (fst (oth l))]) (incr (mrg (fst l) (fst (oth l))) L)
theorem ZpU (l:List Tr) (k:Nat):∀ i,i<=l.length->rK l k i=(l.take i).eraseIdx k:=by
 intro i
 induction i with
 | zero=>intro _;simp [rK]
 | succ i ih =>
  intro hi
  have e:l.take (i+1)=l.take i++[tl l i]:=by
   rw [List.take_add_one,List.getElem?_eq_getElem (by omega)];simp [tl,List.getD_eq_getElem?_getD,List.getElem?_eq_getElem (show i<l.length by omega)]
  have hl:(l.take i).length=i:=by rw [List.length_take];omega
  rw [rK,ih (by omega),e];by_cases h:i=k
  ·rw [if_pos h,<-h,List.eraseIdx_append_of_length_le (by omega),hl,Nat.sub_self,List.eraseIdx_of_length_le (by omega)];simp
  ·rw [if_neg h];by_cases h2:k<i
   ·rw [List.eraseIdx_append_of_lt_length (by omega)]
   ·rw [List.eraseIdx_append_of_length_le (by omega),hl,List.eraseIdx_of_length_le (by omega),List.eraseIdx_of_length_le (by simp;omega)]
theorem ZcF (l:List Tr):oth l=l.eraseIdx (kF l l.length):=by rw [oth,ZpU l _ _ (Nat.le_refl _),List.take_length]
theorem Zmf (s t:Tr):lgt s t=true ↔ s.w<t.w\/(s.w=t.w/\ls s.h<ls t.h):=by
 unfold lgt;by_cases h:s.w=t.w
 ·rw [if_pos h,decide_eq_true_eq];omega
 ·rw [if_neg h,decide_eq_true_eq];omega
theorem ZtG (l:List Tr):∀ i,∀ j,j<i->lgt (tl l j) (tl l (kF l i))=false:=by
 intro i
 induction i with
 | zero=>intro j h;omega
 | succ i ih =>
  intro j hj;rw [kF];by_cases h:lgt (tl l i) (tl l (kF l i))=true
  ·rw [if_pos h];by_cases e:j=i
   ·subst e;exact ZiP _
   ·have h1:=ih j (by omega);rw [Bool.eq_false_iff] at h1 |-
    intro h2;apply h1;rw [Zmf] at h h2 |-
    omega
  ·rw [if_neg h];by_cases e:j=i
   ·subst e;exact Bool.eq_false_iff.2 h
   ·exact ih j (by omega)
def tof (W T:Nat->Int) (r:Nat):Tr:=⟨fun i=>decide (T i=(r:Int)),W r⟩
structure Reps (W T:Nat->Int) (rs:List Nat):Prop where
 nd:rs.Nodup
 mem:∀ r,r ∈ rs ↔ r<16/\W r ≠ 0
 self:∀ r,r ∈ rs->T r=(r:Int)
 least:∀ r,r ∈ rs->∀ i,T i=(r:Int)->r<=i
theorem ZtL {h:Nat->Bool} {r:Nat} (hr:h r=true):∀ m k,k<=r->r<k+m->(∀ i,k<=i->i<r->h i=false)->lsF h m k=r:=by
 intro m
 induction m with
 | zero=>intro k h1 h2 _;omega
 | succ m ih =>
  intro k h1 h2 h3;rw [lsF];by_cases e:k=r
  ·subst e;rw [if_pos hr]
  ·rw [if_neg (by simp [h3 k (Nat.le_refl _) (by omega)])];exact ih (k+1) (by omega) (by omega) (fun i h4 h5=>h3 i (by omega) h5)
theorem Reps.ls {W T:Nat->Int} {rs:List Nat} (H:Reps W T rs) {r:Nat} (hr:r ∈ rs):ls (tof W T r).h=r:=by
 have h16:=((H.mem r).1 hr).1;refine ZtL (by simp [tof,H.self r hr]) 16 0 (by omega) (by omega) (fun i _ hi=>?_);simp only [tof,decide_eq_false_iff_not];intro h;have:=H.least r hr i h;omega
theorem ZlL {W T:Nat->Int} {rs:List Nat} {j:Nat} (h:j<rs.length):tl (rs.map (tof W T)) j=tof W T rs[j]:=by
 simp [tl,List.getD_eq_getElem?_getD,List.getElem?_eq_getElem h]
theorem Zgu {α β:Type} (f:α->β):∀ (l:List α) (k:Nat),(l.map f).eraseIdx k=(l.eraseIdx k).map f
 | [],_=>by simp
 | _ :: _,0=>by simp
 | a :: l,k+1=>by simp [Zgu f l k]
theorem ZjX {W T:Nat->Int} {rs:List Nat} (hls:∀ r,r ∈ rs->ls (tof W T r).h=r) (hn:rs ≠ []):∃ k,∃ h:k<rs.length,fst (rs.map (tof W T))=tof W T rs[k]/\oth (rs.map (tof W T))=(rs.eraseIdx k).map (tof W T)/\∀ r,r ∈ rs->W rs[k]<W r\/(W rs[k]=W r/\rs[k]<=r):=by
 have hl:0<rs.length:=List.length_pos_iff.2 hn
 obtain ⟨k,hk⟩:∃ k,kF (rs.map (tof W T)) (rs.map (tof W T)).length=k:=⟨_,rfl⟩
 have hlt:=ZtB (rs.map (tof W T)) (rs.map (tof W T)).length;rw [hk,List.length_map] at hlt;have hkl:k<rs.length:=by omega
 refine ⟨k,hkl,?_,?_,fun r hr=>?_⟩
 ·rw [fst,hk,ZlL hkl]
 ·rw [ZcF,hk,Zgu]
 ·obtain ⟨j,hj,rfl⟩:=List.getElem_of_mem hr;have h1:=ZtG (rs.map (tof W T)) (rs.map (tof W T)).length j (by rw [List.length_map];exact hj);rw [hk,ZlL hj,ZlL hkl,Bool.eq_false_iff] at h1;rw [Ne,Zmf,hls _ (List.getElem_mem hj),hls _ (List.getElem_mem hkl)] at h1;simp only [tof] at h1;omega
theorem Zoh (W:Nat->Int):∀ k,(∀ i,i<k->W i ≠ 0->(lt2 W k).1 ≠ -1/\(W (lt2 W k).1.toNat<W i\/(W (lt2 W k).1.toNat=W i/\(lt2 W k).1<=(i:Int))))/\(∀ i,i<k->W i ≠ 0->(i:Int) ≠ (lt2 W k).1->(lt2 W k).2 ≠ -1/\(W (lt2 W k).2.toNat<W i\/(W (lt2 W k).2.toNat=W i/\(lt2 W k).2<=(i:Int)))):=by
 intro k
 induction k with
 | zero=>exact ⟨fun i h=>by omega,fun i h=>by omega⟩
 | succ k ih =>
  obtain ⟨i1,i2⟩:=ih;have hs:=Zdh W k;have hb:∀ a,Sg W k a->a<(k:Int):=fun a h=>by rcases h with h | ⟨p,h1,h2,_⟩ <;> omega
  have b1:=hb _ hs.1;have b2:=hb _ hs.2;rw [lt2,ltS];generalize lt2 W k=P at *;obtain ⟨A,B⟩:=P;simp only at *;by_cases h0:W k=0
  ·rw [if_pos h0];refine ⟨fun i hi ni=>i1 i ?_ ni,fun i hi ni=>i2 i ?_ ni⟩ <;> (by_cases e:i=k;(subst e;exact absurd h0 ni);omega)
  ·rw [if_neg h0];by_cases h1:A=-1\/W k<W A.toNat
   ·rw [if_pos h1];simp only [Int.toNat_natCast];refine ⟨fun i hi ni=>⟨by omega,?_⟩,fun i hi ni ne=>?_⟩
    ·by_cases e:i=k
     ·subst e;omega
     ·have:=i1 i (by omega) ni;omega
    ·exact i1 i (by omega) ni
   ·rw [if_neg h1];by_cases h2:B=-1\/W k<W B.toNat
    ·rw [if_pos h2];simp only [Int.toNat_natCast];refine ⟨fun i hi ni=>?_,fun i hi ni ne=>⟨by omega,?_⟩⟩
     ·by_cases e:i=k
      ·subst e;omega
      ·exact i1 i (by omega) ni
     ·by_cases e:i=k
      ·subst e;omega
      ·have:=i2 i (by omega) ni ne;omega
    ·rw [if_neg h2];simp only;refine ⟨fun i hi ni=>?_,fun i hi ni ne=>?_⟩
     ·by_cases e:i=k
      ·subst e;omega
      ·exact i1 i (by omega) ni
     ·by_cases e:i=k
      ·subst e;omega
      ·exact i2 i (by omega) ni ne
theorem ZlN {rs:List Nat} (h:rs.Nodup) {i j:Nat} (hi:i<rs.length) (hj:j<rs.length) (e:rs[i]=rs[j]):i=j:=by
 have h1:=List.pairwise_iff_getElem.1 h;rcases Nat.lt_trichotomy i j with h2 | h2 | h2
 ·exact absurd e (h1 i j hi hj h2)
 ·exact h2
 ·exact absurd e.symm (h1 j i hj hi h2)
theorem Zgk {rs:List Nat} (h:rs.Nodup) {k:Nat} (hk:k<rs.length) (x:Nat):x ∈ rs.eraseIdx k ↔ x ∈ rs/\x ≠ rs[k]:=by
 rw [List.mem_eraseIdx_iff_getElem];constructor
 ·rintro ⟨i,hi,hne,rfl⟩;exact ⟨gM _,fun e=>hne (ZlN h hi hk e)⟩
 ·rintro ⟨h1,h2⟩;obtain ⟨i,hi,rfl⟩:=List.getElem_of_mem h1;exact ⟨i,hi,fun e=>h2 (by subst e;rfl),rfl⟩
theorem Zja {rs:List Nat} (h:rs.Nodup) (k:Nat):(rs.eraseIdx k).Nodup:=List.Nodup.sublist (List.eraseIdx_sublist rs k) h
theorem ZpM:∀ n (W T L:Nat->Int) (rs:List Nat),Reps W T rs->(∀ i,i<16->0<=W i)->boR n (rs.map (tof W T)) L=bldR n W T L:=by
 intro n
 induction n with
 | zero=>intro W T L rs _ _;rfl
 | succ n ih =>
  intro W T L rs H hW;obtain ⟨x1,x2⟩:=Zoh W 16;by_cases hsec:(lt2 W 16).2=-1
  ·rw [ZfU hsec,boR,if_pos];rw [List.length_map];rcases Nat.lt_or_ge 1 rs.length with h | h
   ·exfalso
    have m0:=(H.mem _).1 (gM (show 0<rs.length by omega));have m1:=(H.mem _).1 (gM h);have hne:rs[0] ≠ rs[1]:=fun e=>by have:=ZlN H.nd (by omega) h e;omega
    by_cases e:((rs[0]:Nat):Int)=(lt2 W 16).1
    ·exact (x2 rs[1] m1.1 m1.2 (by omega)).1 hsec
    ·exact (x2 rs[0] m0.1 m0.2 e).1 hsec
   ·exact h
  ·obtain ⟨p,q,hpq,hp,hq,hne,np,nq⟩:=Zcc hsec;rw [hpq] at x1 x2;simp only [Int.toNat_natCast] at x1 x2;have mp:p ∈ rs:=(H.mem p).2 ⟨hp,np⟩;have mq:q ∈ rs:=(H.mem q).2 ⟨hq,nq⟩;have hls:∀ r,r ∈ rs->ls (tof W T r).h=r:=fun r hr=>H.ls hr
   obtain ⟨k1,hk1,f1,o1,l1⟩:=ZjX hls (List.ne_nil_of_mem mp)
   have e1:rs[k1]=p:=by
    have a1:=l1 p mp;have m1:=(H.mem _).1 (gM hk1);have a2:=x1 rs[k1] m1.1 m1.2;omega
   rw [e1] at f1 l1;have hm1:=Zgk H.nd hk1;rw [e1] at hm1;have hnd1:=Zja H.nd k1
   have hlen:¬ (rs.map (tof W T)).length<=1:=by
    rw [List.length_map];intro h;obtain ⟨i,hi,e⟩:=List.getElem_of_mem mp;obtain ⟨j,hj,e'⟩:=List.getElem_of_mem mq;have:i=j:=by omega
    subst this;exact hne (by rw [<-e,<-e'])
   generalize rs.eraseIdx k1=rs1 at *;have mq1:q ∈ rs1:=(hm1 q).2 ⟨mq,fun e=>hne e.symm⟩;obtain ⟨k2,hk2,f2,o2,l2⟩:=ZjX (fun r hr=>hls r ((hm1 r).1 hr).1) (List.ne_nil_of_mem mq1)
   have e2:rs1[k2]=q:=by
    have a1:=l2 q mq1;have b1:=(hm1 _).1 (gM hk2);have m1:=(H.mem _).1 b1.1;have a2:=x2 rs1[k2] m1.1 m1.2 (by omega);omega
   rw [e2] at f2 l2;have hm2:=Zgk hnd1 hk2;rw [e2] at hm2;have hnd2:=Zja hnd1 k2;generalize rs1.eraseIdx k2=rs2 at *;have hr2:∀ r,r ∈ rs2 ↔ r ∈ rs/\r ≠ p/\r ≠ q:=fun r=>by rw [hm2,hm1];exact ⟨fun h=>⟨h.1.1,h.1.2,h.2⟩,fun h=>⟨⟨h.1,h.2.1⟩,h.2.2⟩⟩
   obtain ⟨w1,w2,w3⟩:=Zpf (W:=W) hne;have hWp:=hW p hp;have hWq:=hW q hq;rw [boR,if_neg hlen,f1,o1,f2,o2,Zeq hpq]
   have eL:incr (mrg (tof W T p) (tof W T q)) L=rL T L p q:=by
    funext i
    simp only [incr,mrg,tof,rL,Bool.or_eq_true,decide_eq_true_eq]
   have eM:mrg (tof W T p) (tof W T q)=tof (rW W p q) (rT T p q) (min p q):=by
    unfold mrg tof;rw [w1]
    congr 1
    funext i
    rw [Bool.eq_iff_iff,Bool.or_eq_true,decide_eq_true_eq,decide_eq_true_eq,decide_eq_true_eq];by_cases h:T i=(p:Int)\/T i=(q:Int)
    ·have hT:rT T p q i=((min p q:Nat):Int):=if_pos h;exact ⟨fun _=>hT,fun _=>h⟩
    ·have hT:rT T p q i=T i:=if_neg h;rw [hT];omega
   have eR:rs2.map (tof W T)=rs2.map (tof (rW W p q) (rT T p q)):=by
    apply List.map_congr_left;intro r hr;obtain ⟨_,n1,n2⟩:=(hr2 r).1 hr;unfold tof;rw [w3 r n1 n2]
    congr 1
    funext i
    rw [Bool.eq_iff_iff,decide_eq_true_eq,decide_eq_true_eq];by_cases h:T i=(p:Int)\/T i=(q:Int)
    ·have hT:rT T p q i=((min p q:Nat):Int):=if_pos h;rw [hT];omega
    ·have hT:rT T p q i=T i:=if_neg h;rw [hT]
   rw [eL,eM,eR,<-List.map_singleton,<-List.map_append];refine ih (rW W p q) (rT T p q) (rL T L p q) (rs2++[min p q]) ⟨?_,fun r=>?_,fun r hr=>?_,fun r hr i hi=>?_⟩ (ZjL hW hp hq)
   ·rw [List.nodup_append];refine ⟨hnd2,by simp,fun a ha b hb=>?_⟩;simp only [List.mem_singleton] at hb;have:=(hr2 a).1 ha;omega
   ·rw [List.mem_append,List.mem_singleton,hr2 r,H.mem r];by_cases e:r=min p q
    ·subst e;rw [w1];refine ⟨fun _=>⟨by omega,by omega⟩,fun _=>.inr rfl⟩
    ·by_cases e2:r=max p q
     ·subst e2;rw [w2];refine ⟨fun h=>?_,fun h=>absurd rfl h.2⟩;rcases h with h | h
      ·omega
      ·omega
     ·rw [w3 r (by omega) (by omega)];refine ⟨fun h=>?_,fun h=>.inl ⟨h,by omega,by omega⟩⟩;rcases h with h | h
      ·exact h.1
      ·exact absurd h e
   ·rw [List.mem_append,List.mem_singleton] at hr;rcases hr with hr | hr
    ·obtain ⟨m,n1,n2⟩:=(hr2 r).1 hr;have:=H.self r m;simp only [rT];rw [if_neg (by omega),this]
    ·subst hr;have h1:=H.self p mp;have h2:=H.self q mq;simp only [rT];by_cases h:p<=q
     ·rw [show min p q=p by omega,if_pos (.inl h1)]
     ·rw [show min p q=q by omega,if_pos (.inr h2)]
   ·rw [List.mem_append,List.mem_singleton] at hr;simp only [rT] at hi;rcases hr with hr | hr
    ·obtain ⟨m,n1,n2⟩:=(hr2 r).1 hr;by_cases h:T i=(p:Int)\/T i=(q:Int)
     ·rw [if_pos h] at hi;omega
     ·rw [if_neg h] at hi;exact H.least r m i hi
    ·subst hr;by_cases h:T i=(p:Int)\/T i=(q:Int)
     ·rcases h with h | h
      ·have:=H.least p mp i h;omega
      ·have:=H.least q mq i h;omega
     ·rw [if_neg h] at hi;omega
def in0 (c:Nat->Int):Nat->List Nat
 | 0=>[]
 | k+1=>if 0<c k then in0 c k++[k] else in0 c k
theorem ZaO (c:Nat->Int):∀ k r,r ∈ in0 c k ↔ r<k/\0<c r:=by
 intro k
 induction k with
 | zero=>intro r;simp [in0]
 | succ k ih =>
  intro r;rw [in0];by_cases h:0<c k
  ·rw [if_pos h,List.mem_append,ih,List.mem_singleton];constructor
   ·rintro (h1 | h1)
    ·exact ⟨by omega,h1.2⟩
    ·subst h1;exact ⟨by omega,h⟩
   ·rintro ⟨h1,h2⟩;by_cases e:r=k
    ·exact .inr e
    ·exact .inl ⟨by omega,h2⟩
  ·rw [if_neg h,ih];constructor
   ·rintro ⟨h1,h2⟩;exact ⟨by omega,h2⟩
   ·rintro ⟨h1,h2⟩;by_cases e:r=k
    ·subst e;exact absurd h2 h
    ·exact ⟨by omega,h2⟩
theorem ZqP (c:Nat->Int):∀ k,(in0 c k).Nodup:=by
 intro k
 induction k with
 | zero=>simp [in0]
 | succ k ih =>
  rw [in0];split
  ·rw [List.nodup_append];refine ⟨ih,by simp,fun a ha b hb=>?_⟩;simp only [List.mem_singleton] at hb;have:=(ZaO c k a).1 ha;omega
  ·exact ih
theorem ZmE (c:Nat->Int):∀ k,(in0 c k).length<=k:=by
 intro k
 induction k with
 | zero=>simp [in0]
 | succ k ih =>
  rw [in0];split
  ·simp;omega
  ·omega
theorem ZjY {c:Nat->Int} (hc:∀ i,i<16->0<=c i):Reps c (fun i=>i) (in0 c 16) :=
 ⟨ZqP c 16,fun r=>by
  rw [ZaO];constructor
  ·rintro ⟨h1,h2⟩;exact ⟨h1,by omega⟩
  ·rintro ⟨h1,h2⟩;have:=hc r h1;exact ⟨h1,by omega⟩,fun r _=>rfl,fun r _ i h=>by have h9:((i:Nat):Int)=(r:Int):=h;omega⟩
theorem Zlz {c:Nat->Int} (h:InR c 2048 16):(in0 c 16=[]->bld c=(fun _=>0,5))/\(∀ r,in0 c 16=[r]->bld c=(upd (fun _=>0) r 1,0))/\(2<=(in0 c 16).length->bld c=(boR 16 ((in0 c 16).map (tof c fun i=>i)) (fun _=>0),0)):=by
 have hc:∀ i,i<16->0<=c i:=fun i hi=>(h i hi).1
 obtain ⟨x1,x2⟩:=Zoh c 16;obtain ⟨s1,s2⟩:=Zdh c 16;refine ⟨fun e=>?_,fun r e=>?_,fun e=>?_⟩
 ·rcases s1 with s1 | ⟨p,e1,hp,np⟩
  ·rw [bld,if_neg (fun h9=>h9 h),if_pos s1]
  ·exfalso
   have:=(ZaO c 16 p).2 ⟨hp,by have:=hc p hp;omega⟩;rw [e] at this;simp at this
 ·have mr:=(ZaO c 16 r).1 (by rw [e];simp);have hf:=x1 r mr.1 (by omega)
  have hfst:(lt2 c 16).1=(r:Int):=by
   rcases s1 with s1 | ⟨p,e1,hp,np⟩
   ·exact absurd s1 hf.1
   ·have:=(ZaO c 16 p).2 ⟨hp,by have:=hc p hp;omega⟩;rw [e,List.mem_singleton] at this;omega
  have hsec:(lt2 c 16).2=-1:=by
   by_cases h9:(lt2 c 16).2=-1
   ·exact h9
   ·exfalso
    obtain ⟨p,q,hpq,hp,hq,hne,np,nq⟩:=Zcc h9;have m1:=(ZaO c 16 p).2 ⟨hp,by have:=hc p hp;omega⟩;have m2:=(ZaO c 16 q).2 ⟨hq,by have:=hc q hq;omega⟩;rw [e,List.mem_singleton] at m1 m2;omega
  rw [bld,if_neg (fun h9=>h9 h),if_neg hf.1,if_pos hsec,hfst,Int.toNat_natCast]
 ·have m0:=(ZaO c 16 _).1 (gM (show 0<(in0 c 16).length by omega));have m1:=(ZaO c 16 _).1 (gM (show 1<(in0 c 16).length by omega));have hne:(in0 c 16)[0] ≠ (in0 c 16)[1]:=fun e9=>by have:=ZlN (ZqP c 16) (by omega) (by omega) e9;omega
  have hf:=x1 _ m0.1 (by omega)
  have hsec:(lt2 c 16).2 ≠ -1:=by
   by_cases e9:(((in0 c 16)[0]:Nat):Int)=(lt2 c 16).1
   ·exact (x2 _ m1.1 (by omega) (by omega)).1
   ·exact (x2 _ m0.1 (by omega) e9).1
  rw [bld,if_neg (fun h9=>h9 h),if_neg hf.1,if_neg hsec,ZpM 16 c (fun i=>i) _ _ (ZjY hc) hc]
def sw (l:List Tr):Int:=(l.map (·.w)).sum
theorem ZjS:∀ (l:List Tr) (k:Nat) (h:k<l.length),sw (l.eraseIdx k)+l[k].w=sw l
 | a :: l,0,_=>by simp [sw];omega
 | a :: l,k+1,h=>by
  have:=ZjS l k (by simpa using h);simp only [sw,List.eraseIdx_cons_succ,List.map_cons,List.sum_cons,List.getElem_cons_succ] at this |-
  omega
theorem ZqT {l:List Tr} {k:Nat} (h:k<l.length):tl l k=l[k]:=by simp [tl,List.getD_eq_getElem?_getD,List.getElem?_eq_getElem h]
theorem ZnR {l:List Tr} (h:1<=l.length):kF l l.length<l.length:=by have:=ZtB l l.length;omega
theorem ZnZ {l:List Tr} (h:1<=l.length):(oth l).length+1=l.length:=by
 rw [ZcF,List.length_eraseIdx_of_lt (ZnR h)];omega
theorem ZqS {l:List Tr} (h:1<=l.length):sw (oth l)+(fst l).w=sw l:=by
 rw [ZcF,fst,ZqT (ZnR h)];exact ZjS l _ _
theorem ZmX {l:List Tr} (h:1<=l.length) (hw:∀ t,t ∈ l->0<=t.w):(∀ t,t ∈ oth l->0<=t.w)/\0<=(fst l).w:=by
 refine ⟨fun t ht=>?_,?_⟩
 ·rw [ZcF] at ht;exact hw t (List.mem_of_mem_eraseIdx ht)
 ·rw [fst,ZqT (ZnR h)];exact hw _ (gM _)
theorem ZqU:∀ (l:List Tr),(∀ t,t ∈ l->0<=t.w)->0<=sw l
 | [],_=>by simp [sw]
 | a :: l,h=>by
  have:=ZqU l (fun t ht=>h t (by simp [ht]));have h1:=h a (by simp);simp only [sw,List.map_cons,List.sum_cons] at this |-
  omega
theorem Ztm (l:List Tr) (t:Tr):sw (l++[t])=sw l+t.w:=by simp [sw]
structure Fine (l:List Tr) (L:Nat->Int):Prop where
 len:l.length<=16
 pos:∀ t,t ∈ l->0<=t.w
 sum:sw l<=32768
 low:∀ i,0<=L i/\L i+(l.length:Int)<=16
theorem Fine.two {l:List Tr} {L:Nat->Int} (H:Fine l L) (h:2<=l.length):0<=(fst l).w/\0<=(fst (oth l)).w/\(fst l).w+(fst (oth l)).w<=32768/\(oth l).length+1=l.length/\(oth (oth l)).length+2=l.length/\Fine (oth (oth l)++[mrg (fst l) (fst (oth l))]) (incr (mrg (fst l) (fst (oth l))) L):=by
 have l1:=ZnZ (l:=l) (by omega);have l2:=ZnZ (l:=oth l) (by omega);have s1:=ZqS (l:=l) (by omega);have s2:=ZqS (l:=oth l) (by omega);obtain ⟨p1,q1⟩:=ZmX (l:=l) (by omega) H.pos;obtain ⟨p2,q2⟩:=ZmX (l:=oth l) (by omega) p1;have p3:=ZqU _ p2;have hs:=H.sum;refine ⟨q1,q2,by omega,l1,by omega,?_,fun t ht=>?_,?_,fun i=>?_⟩
 ·have:=H.len;rw [List.length_append,List.length_singleton];omega
 ·rw [List.mem_append,List.mem_singleton] at ht;rcases ht with ht | ht
  ·exact p2 t ht
  ·subst ht;show 0<=(fst l).w+(fst (oth l)).w;omega
 ·rw [Ztm];show sw (oth (oth l))+((fst l).w+(fst (oth l)).w)<=_;omega
 ·have:=H.low i;rw [List.length_append,List.length_singleton];unfold incr;split <;> omega
theorem ZtM:∀ (l:List Tr),(∀ t,t ∈ l->t.w<=2048)->sw l<=2048*l.length
 | [],_=>by simp [sw]
 | a :: l,h=>by
  have:=ZtM l (fun t ht=>h t (by simp [ht]));have h1:=h a (by simp);simp only [sw,List.map_cons,List.sum_cons,List.length_cons] at this |-
  omega
theorem ZuK {c:Nat->Int} (h:InR c 2048 16):Fine ((in0 c 16).map (tof c fun i=>i)) (fun _=>0):=by
 have hl:=ZmE c 16
 have hb:∀ t,t ∈ (in0 c 16).map (tof c fun i=>i)->0<=t.w/\t.w<=2048:=fun t ht=>by
  obtain ⟨r,hr,rfl⟩:=List.mem_map.1 ht;exact h r ((ZaO c 16 r).1 hr).1
 have hs:=ZtM _ (fun t ht=>(hb t ht).2);rw [List.length_map] at hs;refine ⟨by rw [List.length_map];exact hl,fun t ht=>(hb t ht).1,by omega,fun i=>⟨by omega,by rw [List.length_map];omega⟩⟩
end Cd
end Go.Proofs.YtbjbjbpgmojcbacGreat
