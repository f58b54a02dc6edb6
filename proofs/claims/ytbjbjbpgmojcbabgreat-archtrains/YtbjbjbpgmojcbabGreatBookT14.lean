/- A part of the proof: what it leans on. -/
import Derived.Great.BuildSlice
import Derived.Test.YtbjbjbpgmojcbabGreatBookT05
import Derived.Test.YtbjbjbpgmojcbabGreatBookT06
import Derived.Test.YtbjbjbpgmojcbabGreatBookT08
set_option maxRecDepth 4000
set_option maxHeartbeats 4000000
namespace Go.Proofs.YtbjbjbpgmojcbabGreat
open Go.RowKit
def tr0:Tr:=⟨fun _=>false,0⟩
theorem info_tree:(Tryz.prog.info? 205).map (fun i=>(i.zero,i.size,i.bytes))=some (some (.agg (trc tr0)),17,24):=by kernel_rfl
theorem tree_fill (t:Tr):Instr.fill (fun i=>some (i*17,17)) ((Array.range (1*17)).map ((Value.agg (trc tr0)).cells[· % (Value.agg (trc tr0)).cells.size]!)) [(0,.agg (trc t))]=some (trc t):=by kernel_rfl
def flat (l:List Tr):List Value:=l.flatMap fun t=>(trc t).toList
theorem flat_app (a b:List Tr):flat (a++b)=flat a++flat b:=by simp [flat]
theorem flat_one (t:Tr):flat [t]=(trc t).toList:=by simp [flat]
theorem flat_len (l:List Tr):(flat l).length=l.length*17:=by
 induction l with
 | nil=>rfl
 | cons t l ih =>
  have:flat (t :: l)=(trc t).toList++flat l:=by simp [flat]
  rw [this,List.length_append,ih,Array.length_toList,trc_size,List.length_cons]
  omega
def tl (l:List Tr) (i:Nat):Tr:=l.getD i tr0
theorem flat_at (l:List Tr) (i j:Nat) (hi:i<l.length) (hj:j<17):(flat l)[i*17+j]?=(trc (tl l i)).toList[j]?:=by
 have e:l=l.take i++([tl l i]++l.drop (i+1)):=by
  have h1:tl l i=l[i]:=by simp [tl,List.getD_eq_getElem?_getD,List.getElem?_eq_getElem hi]
  rw [h1]
  simp
 have hlen:(flat (l.take i)).length=i*17:=by rw [flat_len,List.length_take,Nat.min_eq_left (by omega)]
 have:flat l=flat (l.take i)++(flat [tl l i]++flat (l.drop (i+1))):=by rw [<-flat_app,<-flat_app,<-e]
 rw [this,List.getElem?_append_right (by omega),hlen,show i*17+j - i*17=j by omega,flat_one,List.getElem?_append_left (by rw [Array.length_toList,trc_size];exact hj)]
theorem flat_range {w:World} {g:Nat} {l:List Tr} (h:w.rangeAt g 0 (flat l)) {i:Nat} (hi:i<l.length):w.rangeAt g (i*17) (trc (tl l i)).toList:=fun j v hj=>by
 have hj17:j<17:=by
  have:=(List.getElem?_eq_some_iff.1 hj).1
  rwa [Array.length_toList,trc_size] at this
 rw [<-flat_at l i j hi hj17] at hj
 have:=h (i*17+j) v hj
 rwa [Nat.zero_add] at this
theorem range_below {w w':World} {g o:Nat} {cs:List Value} (h:w.rangeAt g o cs) (hb:Below w.heap.size w w') (hg:g<w.heap.size):w'.rangeAt g o cs:=fun j v hj=>by
 have:=h j v hj
 rw [<-this]
 exact hb.cell (p:=⟨g,o+j,none⟩) hg
theorem own_trees {w:World} {base n:Nat} {v:Value} {l:List Tr} (h:w.ownsRow base 205 17 v n (flat l)) (hl:l ≠ []):∃ g cap,v=.slice (some ⟨g,0,none⟩) l.length cap/\base<=g/\g<w.heap.size/\w.rangeAt g 0 (flat l):=by
 have hlen:=h.1
 rw [flat_len] at hlen
 obtain rfl:l.length=n:=by omega
 rcases h.2 with ⟨_,h0⟩ | ⟨g,cap,cur,rfl,hb,hg,hnc,hcm,hcs,htk⟩
 · exact absurd (List.eq_nil_of_length_eq_zero h0) hl
 · refine ⟨g,cap,rfl,hb,(Array.getElem?_eq_some_iff.1 hg).1,fun j v hj=>?_⟩
   rw [Nat.zero_add,cell_of_row w g j _ _ _ hg,<-hj,<-htk]
   have hj2:=(List.getElem?_eq_some_iff.1 hj).1
   rw [flat_len] at hj2
   rw [List.getElem?_take,if_pos hj2]
   simp
namespace Cd
def kF (l:List Tr):Nat->Nat
 | 0=>0
 | i+1=>if lgt (tl l i) (tl l (kF l i))=true then i else kF l i
theorem kF_lt (l:List Tr):∀ i,kF l i<=i - 1:=by
 intro i
 induction i with
 | zero=>simp [kF]
 | succ i ih =>
  rw [kF]
  split <;> omega
theorem lgt_self (t:Tr):lgt t t=false:=by simp [lgt]
theorem kF_one (l:List Tr):kF l 1=0:=by rw [kF,kF,lgt_self];rfl
def rK (l:List Tr) (k:Nat):Nat->List Tr
 | 0=>[]
 | i+1=>if i=k then rK l k i else rK l k i++[tl l i]
theorem rK_len (l:List Tr) (k:Nat):∀ i,(rK l k i).length<=i:=by
 intro i
 induction i with
 | zero=>simp [rK]
 | succ i ih =>
  rw [rK]
  split
  · omega
  · simp;omega
end Cd
theorem tr0_lit:(#[.bool false,.bool false,.bool false,.bool false,.bool false,.bool false,.bool false,.bool false,.bool false,.bool false,.bool false,.bool false,.bool false,.bool false,.bool false,.bool false,.int .i64 0]:Array Value)=trc tr0:=rfl
theorem news17 (w:World) (t:Tr):∀ j u,(trc t).toList[j]?=some u->(w.alloc (.cells (trc t) 205)).cell? ((⟨w.heap.size,0,none⟩:Addr).add j)=some u:=fun j u h=>by
 rw [Addr.add_mid,Nat.zero_add,cell_of_row _ w.heap.size j _ _ _ (heap_alloc_last w _)]
 simpa using h
theorem len17 (t:Tr):(trc t).toList.length=1*17:=by rw [Array.length_toList,trc_size]
theorem one17 (t:Tr):∀ u ∈ (trc t).toList,u.oneCell'=true:=by
 have:=trc_one t
 rw [Array.all_eq_true_iff_forall_mem] at this
 intro u hu
 exact this u (by simpa using hu)
theorem range_block {w w':World} {g o:Nat} {cs:List Value} (h:w.rangeAt g o cs) (he:w'.heap[g]?=w.heap[g]?):w'.rangeAt g o cs:=fun j v hj=>by
 have:=h j v hj
 simp only [World.cell?,he] at this |-
 exact this
theorem block_grown {w w1:World} {g:Nat} {v:Value} {o:Obj} (hlt:g<w.heap.size) (hne:some g ≠ v.ownBlock) (hg:(w.alloc o).grownBy w1 v.ownBlock):w1.heap[g]?=w.heap[g]?:=by
 rw [hg.block g (by simp;omega) hne]
 exact ((Below.refl w.heap.size w).alloc (Nat.le_refl _) o).block g hlt
theorem TrAt.block {w w':World} {g:Nat} {t:Tr} (H:TrAt w g t) (he:w'.heap[g]?=w.heap[g]?):TrAt w' g t:=by
 have h2:=he.trans H.2
 exact ⟨(Array.getElem?_eq_some_iff.1 h2).1,h2⟩
theorem TrAt.setRow {w:World} {g:Nat} {t:Tr} (H:TrAt w g t) (t':Tr):TrAt (w.setRow g (trc t')) g t':=by
 refine ⟨by have:=H.1;simpa [World.setRow] using this,?_⟩
 show (w.heap.modify g _)[g]?=_
 rw [Array.getElem?_modify,if_pos rfl,H.2]
 rfl
theorem own_setRow {w:World} {base g:Nat} {t:TypeId} {sz n:Nat} {v:Value} {cs:List Value} (ho:w.ownsRow (g+1) t sz v n cs) (hb:base<=g+1) (c:Array Value):(w.setRow g c).ownsRow base t sz v n cs:=by
 refine ⟨ho.1,?_⟩
 rcases ho.2 with h0 | ⟨q,cap,cur,rfl,e1,e2,e3⟩
 · exact .inl h0
 · refine .inr ⟨q,cap,cur,rfl,by omega,?_,e3⟩
   show (w.heap.modify g _)[q]?=_
   rw [Array.getElem?_modify,if_neg (by omega),e2]
theorem wpList_load_tree {ops:Array Oper} {rest:List Oper} {op:Oper} {a:Act} {w:World} {Q:Exit->Act->World->Prop} (hgd:op.guard=none) (x:Operand) (ho:op.op=.load 205 x)
 (b o:Nat) (hx:a.eval x=.pointer (some ⟨b,o,none⟩)) (t:Tr) (hc:w.rangeAt b o (trc t).toList) (h:wpList Tryz.prog ops Q rest (a.put op.dst (.agg (trc t))) w):wpList Tryz.prog ops Q (op :: rest) a w :=
 wpList_load_mid hgd 205 x ho b o hx (trc t).toList _ hc Tryz.underlying205 rfl (by rw [Array.length_toList];exact trc_infoc t) (by rw [Array.toArray_toList];exact h)
theorem wpList_build_tree {ops:Array Oper} {rest:List Oper} {o:Oper} {a:Act} {w:World} {Q:Exit->Act->World->Prop} (hg:o.guard=none) (x:Operand) (ho:o.op=.buildSlice 202 1 #[(0,x)]) (t:Tr) (hx:a.eval x=.agg (trc t))
 (h:wpList Tryz.prog ops Q rest (a.put o.dst (.slice (some ⟨w.heap.size,0,none⟩) 1 1)) (w.alloc (.cells (trc t) 205))):wpList Tryz.prog ops Q (o :: rest) a w:=by
 obtain ⟨i0,hi,hz0,hz1,hz2⟩:=info_parts info_tree
 refine wpList_buildSlice hg 202 205 1 _ ho (trc t) i0 (.agg (trc tr0)) Tryz.underlying202 hi hz0 (by rw [hz1];decide) (by rw [hz1];decide) ?_ h
 rw [hz1]
 have:=tree_fill t
 simp only [List.map_toArray,List.map_cons,List.map_nil,hx]
 exact this
theorem wpList_append_tree {ops:Array Oper} {rest:List Oper} {o:Oper} {a:Act} {w:World} {Q:Exit->Act->World->Prop} (hgd:o.guard=none) (s x:Operand)
 (ho:o.op=.call { callee:=.builtin .append,args:=#[s,x],argTypes:=#[202,202] })
 (base:Nat) (v:Value) (l:List Tr) (hs:a.eval s=v) (hown:w.ownsRow base 205 17 v l.length (flat l)) (t:Tr) (hx:a.eval x=.slice (some ⟨w.heap.size,0,none⟩) 1 1)
 (hl:l.length<=1000) (hbase:base<=w.heap.size)
 (h:∀ v' w',w'.ownsRow base 205 17 v' (l++[t]).length (flat (l++[t]))->(w.alloc (.cells (trc t) 205)).grownBy w' v.ownBlock->wpList Tryz.prog ops Q rest (a.put o.dst v') w'):wpList Tryz.prog ops Q (o :: rest) a (w.alloc (.cells (trc t) 205)):=by
 obtain ⟨i0,hi,hz0,hz1,hz2⟩:=info_parts info_tree
 refine wpList_append_own _ hgd s x 202 ho base 205 i0 (.agg (trc tr0)) 17 24 Tryz.underlying202 hi hz0 hz1 hz2 (trc_size _) (by decide) v l.length (flat l) hs (hown.alloc _) ⟨w.heap.size,0,none⟩ 1 1 (trc t).toList hx (len17 t) (news17 w t) (one17 t) (ml_le (by omega)) (by omega) (by simp;omega) ?_
 intro v' w' h1 h2 _
 refine h v' w' ?_ h2
 rw [flat_app,flat_one,List.length_append]
 exact h1
theorem takeLeast_any (l:List Tr) (g cap:Nat) (w:World) (hl:1<=l.length) (hl2:l.length<=16) (hg:g<w.heap.size) (hr:w.rangeAt g 0 (flat l)) :
 Calls Tryz.prog 186 #[.slice (some ⟨g,0,none⟩) l.length cap] w fun e w'=>∃ v,e=.returned (.tuple #[.agg (trc (tl l (Cd.kF l l.length))),v])/\Below w.heap.size w w'/\w'.ownsRow w.heap.size 205 17 v (Cd.rK l (Cd.kF l l.length) l.length).length (flat (Cd.rK l (Cd.kF l l.length) l.length)):=by
 obtain ⟨i0,hi,hz0,hz1,hz2⟩:=info_parts info_tree
 have A1:=TrAt.new w tr0
 have B1:Below w.heap.size w (w.alloc (.cells (trc tr0) 205)):=(Below.refl _ _).alloc (Nat.le_refl _) _
 have r1:=range_below hr ((Below.refl w.heap.size w).alloc (Nat.le_refl _) (.cells (trc tr0) 205)) hg
 have hl3:(l.length:Int)<=16:=by omega
 obtain ⟨KK,hKK⟩:∃ k,Cd.kF l l.length=k:=⟨_,rfl⟩
 rw [hKK]
 have HKK:Hid (Cd.kF l l.length=KK):=hKK
 clear hKK
 go_enter Tryz.func186,Tryz.ntmps186
 go_wp2_with fail
 rw [tr0_lit]
 generalize w.alloc (.cells (trc tr0) 205)=w0 at *
 clear hr
 have HG:Hid (g<w.heap.size):=hg
 go_loopw [4,5] (fun kk ii wr=>∃ (i k:Nat),1<=i/\i<=l.length/\k<l.length/\ii=.int .i64 i/\kk=.int .i64 k/\Hid (Cd.kF l i=k)/\wr.rangeAt g 0 (flat l)/\TrAt wr w.heap.size tr0/\Below w.heap.size w wr) (fun _ i _=>20 - (intOf i).toNat)
 case atStart=>exact ⟨1,0,by omega,hl,by omega,rfl,rfl,Cd.kF_one l,r1,A1,B1⟩
 case round =>
  clear r1 A1 B1
  obtain ⟨i,k,hi1,hi2,hk,rfl,rfl,HK,r1,A1,B1⟩:=hrel
  by_cases hlt:i<l.length
  · have d1:decide ((i:Int)<(l.length:Int))=true:=by simp;omega
    have d1':decide (i<l.length)=true:=by simp;omega
    have hiI:(i:Int)<(l.length:Int):=by omega
    have hkI:(k:Int)<(l.length:Int):=by omega
    have hlg:=fun w=>lighter_any (tl l i) (tl l k) w
    have HK1:Hid (Cd.kF l (i+1)=if Cd.lgt (tl l i) (tl l k)=true then i else k):=by show _=_;rw [Cd.kF,HK.out]
    generalize Cd.lgt (tl l i) (tl l k)=c at *
    have hti:=trc_infoc (tl l i)
    have htk:=trc_infoc (tl l k)
    go_wp2_with fail
    refine wp_region_held_drew (S:=fun w'=>w'.rangeAt g 0 (flat l)) (by kernel_rfl) (by simpa using r1) (fun hS=>?_)
    refine wpAnyH_take (i:=0) (fuel:=8) (v:=.slice (some ⟨g,0,none⟩) l.length cap) rfl (by kernel_rfl) (by kernel_rfl) (by kernel_rfl) (fun _ _ _ h=>h) (Or.inl ⟨by rfl,fun w _=>by go_simp⟩) hS ?_
    refine wpAnyH_take (i:=1) (fuel:=7) (v:=.int .i64 (i:Int)) rfl (by kernel_rfl) (by kernel_rfl) (by kernel_rfl) (fun _ _ _ h=>h) (Or.inl ⟨by rfl,fun w _=>by go_simp⟩) hS ?_
    refine wpAnyH_take (i:=2) (fuel:=6) (v:=.pointer (some ⟨g,i*17,none⟩)) rfl (by kernel_rfl) (by kernel_rfl) (by kernel_rfl) (fun _ _ _ h=>h) (Or.inl ⟨by rfl,fun w _=>by go_simp⟩) hS ?_
    refine wpAnyH_take (i:=3) (fuel:=5) rfl (by kernel_rfl) (by kernel_rfl) (by kernel_rfl) (fun _ _ _ h=>h) (yieldsIf_load_mid (by rfl) 205 _ rfl g (i*17) rfl (trc (tl l i)).toList _ (fun w' h'=>flat_range h' hlt) Tryz.underlying205 rfl (by rw [Array.length_toList];exact hti)) hS ?_
    refine wpAnyH_take (i:=4) (fuel:=4) (v:=.slice (some ⟨g,0,none⟩) l.length cap) rfl (by kernel_rfl) (by kernel_rfl) (by kernel_rfl) (fun _ _ _ h=>h) (Or.inl ⟨by rfl,fun w _=>by go_simp⟩) hS ?_
    refine wpAnyH_take (i:=5) (fuel:=3) (v:=.int .i64 (k:Int)) rfl (by kernel_rfl) (by kernel_rfl) (by kernel_rfl) (fun _ _ _ h=>h) (Or.inl ⟨by rfl,fun w _=>by go_simp⟩) hS ?_
    refine wpAnyH_take (i:=6) (fuel:=2) (v:=.pointer (some ⟨g,k*17,none⟩)) rfl (by kernel_rfl) (by kernel_rfl) (by kernel_rfl) (fun _ _ _ h=>h) (Or.inl ⟨by rfl,fun w _=>by go_simp⟩) hS ?_
    refine wpAnyH_take (i:=7) (fuel:=1) rfl (by kernel_rfl) (by kernel_rfl) (by kernel_rfl) (fun _ _ _ h=>h) (yieldsIf_load_mid (by rfl) 205 _ rfl g (k*17) rfl (trc (tl l k)).toList _ (fun w' h'=>flat_range h' hk) Tryz.underlying205 rfl (by rw [Array.length_toList];exact htk)) hS ?_
    refine last_ready (i:=8) (fuel:=0) (by kernel_rfl) (by kernel_rfl) rfl rfl (fun K hK=>?_)
    go_simp
    refine (hlg _).mono ?_
    rintro e w4 ⟨rfl,G4⟩
    have r4:=range_below (show wr.drew.rangeAt g 0 (flat l) from hS) G4 (Nat.lt_of_lt_of_le HG.out B1.size)
    have A4:=(show TrAt wr.drew w.heap.size tr0 from A1).below G4
    have B4:=bch (show Below w.heap.size w wr.drew from B1.drew) G4 (Nat.le_refl _)
    clear r1 A1 B1 G4 hlg hS
    refine hK _ _ r4 ?_
    clear hK
    cases c with
    | true =>
     go_wp2_with fail
     exact ⟨⟨i+1,i,by omega,by omega,by omega,by go_num,rfl,HK1.out,r4,A4,B4⟩,by simp [intOf];omega⟩
    | false =>
     go_wp2_with fail
     exact ⟨⟨i+1,k,by omega,by omega,hk,by go_num,rfl,HK1.out,r4,A4,B4⟩,by simp [intOf];omega⟩
  · obtain rfl:i=l.length:=by omega
    obtain rfl:KK=k:=HKK.out.symm.trans HK.out
    have d1:decide ((l.length:Int)<(l.length:Int))=false:=by simp
    have d1':decide (l.length<l.length)=false:=by simp
    have hkI:(KK:Int)<(l.length:Int):=by omega
    clear hlt HK HKK
    go_wp2_with fail
    clear d1 d1'
    go_loopw [6,7] (fun v i wr=>∃ k:Nat,k<=l.length/\i=.int .i64 k/\wr.ownsRow (w.heap.size+1) 205 17 v (Cd.rK l KK k).length (flat (Cd.rK l KK k))/\wr.rangeAt g 0 (flat l)/\TrAt wr w.heap.size tr0/\Below w.heap.size w wr) (fun _ i _=>20 - (intOf i).toNat)
    case atStart=>exact ⟨0,by omega,rfl,World.ownsRow_nil _ _ _ _,r1,A1,B1⟩
    case round =>
     clear r1 A1 B1
     obtain ⟨i,hi2,rfl,ho,r1,A1,B1⟩:=hrel
     have hrl:=Cd.rK_len l KK i
     by_cases hlt:i<l.length
     · have d1:decide ((i:Int)<(l.length:Int))=true:=by simp;omega
       have d1':decide (i<l.length)=true:=by simp;omega
       have hiI:(i:Int)<(l.length:Int):=by omega
       by_cases hik:i=KK
       · have d2:((i:Int) != (KK:Int))=false:=by simp;omega
         have HR:Hid (Cd.rK l KK (i+1)=Cd.rK l KK i):=by show _=_;rw [Cd.rK,if_pos hik]
         clear hik
         go_wp2_with fail
         exact ⟨⟨i+1,by omega,by go_num,by rw [HR.out];exact ho,r1,A1,B1⟩,by simp [intOf];omega⟩
       · have d2:((i:Int) != (KK:Int))=true:=by simp;omega
         have HR:Hid (Cd.rK l KK (i+1)=Cd.rK l KK i++[tl l i]):=by show _=_;rw [Cd.rK,if_neg hik]
         have rt:=flat_range r1 hlt
         have hgs:w.heap.size<wr.heap.size:=A1.1
         have hgg:g<wr.heap.size:=Nat.lt_of_lt_of_le HG.out B1.size
         generalize Cd.rK l KK i=rs at *
         generalize tl l i=t at *
         clear hik
         go_wp2_with (first | refine wpList_load_tree rfl _ rfl g (i*17) rfl t rt ?_ | refine wpList_build_tree rfl _ rfl t rfl ?_ | (at_builtin;go_must (refine wpList_append_tree rfl _ _ rfl (w.heap.size+1) _ rs rfl ho t rfl (by omega) (by omega) ?_;intro v' w6 hown' hgrow)))
         have hne:∀ q,q<=w.heap.size->some q ≠ Value.ownBlock u6:=fun q hq e=>by have:=(ho.lt q e.symm).1;omega
         have r6:=range_block r1 (block_grown hgg (hne _ (Nat.le_of_lt HG.out)) hgrow)
         have A6:=A1.block (block_grown hgs (hne _ (Nat.le_refl _)) hgrow)
         have B6:Below w.heap.size w w6:=(B1.alloc B1.size _).grown hgrow (by have:=B1.size;simp;omega) (fun j hj=>by have:=(ho.lt j hj).1;omega)
         exact ⟨⟨i+1,by omega,by go_num,by rw [HR.out];exact hown',r6,A6,B6⟩,by simp [intOf];omega⟩
     · obtain rfl:i=l.length:=by omega
       have d1:decide ((l.length:Int)<(l.length:Int))=false:=by simp
       have d1':decide (l.length<l.length)=false:=by simp
       have rt:=flat_range r1 hk
       have hti:=trc_infoc (tl l KK)
       go_wp2_with (first | refine wpList_load_tree rfl _ rfl g (KK*17) rfl (tl l KK) rt ?_ | refine wpList_store_row rfl 205 _ _ rfl w.heap.size (trc (tl l KK)) rfl rfl 205 _ A1.2 hti (by rw [trc_size,trc_size]) (trc_one _) ?_)
       have U2:=A1.setRow (tl l KK)
       exact bodyPost_ret (v:=.tuple #[.agg (trc (tl l KK)),u6]) (results_row2 Tryz.results186 _ _ w.heap.size 205 _ (0,0) _ rfl U2.2 Tryz.underlying205 rfl hti _ rfl) rfl ⟨_,rfl,below_setRow B1 (Nat.le_refl _) _,own_setRow ho (by omega) _⟩
end Go.Proofs.YtbjbjbpgmojcbabGreat
namespace Go.Proofs.YtbjbjbpgmojcbabGreat
namespace Cd
def mrg (a b:Tr):Tr:=⟨fun i=>a.h i || b.h i,a.w+b.w⟩
def incr (t:Tr) (L:Nat->Int):Nat->Int:=fun i=>if t.h i=true then L i+1 else L i
def fst (l:List Tr):Tr:=tl l (kF l l.length)
def oth (l:List Tr):List Tr:=rK l (kF l l.length) l.length
def boR:Nat->List Tr->(Nat->Int)->(Nat->Int)
 | 0,_,L=>L
 | n+1,l,L=>if l.length<=1 then L else boR n (oth (oth l)++[mrg (fst l) (fst (oth l))]) (incr (mrg (fst l) (fst (oth l))) L)
theorem rK_erase (l:List Tr) (k:Nat):∀ i,i<=l.length->rK l k i=(l.take i).eraseIdx k:=by
 intro i
 induction i with
 | zero=>intro _;simp [rK]
 | succ i ih =>
  intro hi
  have e:l.take (i+1)=l.take i++[tl l i]:=by
   rw [List.take_add_one,List.getElem?_eq_getElem (by omega)]
   simp [tl,List.getD_eq_getElem?_getD,List.getElem?_eq_getElem (show i<l.length by omega)]
  have hl:(l.take i).length=i:=by rw [List.length_take];omega
  rw [rK,ih (by omega),e]
  by_cases h:i=k
  · rw [if_pos h,<-h,List.eraseIdx_append_of_length_le (by omega),hl,Nat.sub_self,List.eraseIdx_of_length_le (by omega)]
    simp
  · rw [if_neg h]
    by_cases h2:k<i
    · rw [List.eraseIdx_append_of_lt_length (by omega)]
    · rw [List.eraseIdx_append_of_length_le (by omega),hl,List.eraseIdx_of_length_le (by omega),List.eraseIdx_of_length_le (by simp;omega)]
theorem oth_erase (l:List Tr):oth l=l.eraseIdx (kF l l.length):=by rw [oth,rK_erase l _ _ (Nat.le_refl _),List.take_length]
theorem lgt_iff (s t:Tr):lgt s t=true ↔ s.w<t.w\/(s.w=t.w/\ls s.h<ls t.h):=by
 unfold lgt
 by_cases h:s.w=t.w
 · rw [if_pos h,decide_eq_true_eq];omega
 · rw [if_neg h,decide_eq_true_eq];omega
theorem kF_min (l:List Tr):∀ i,∀ j,j<i->lgt (tl l j) (tl l (kF l i))=false:=by
 intro i
 induction i with
 | zero=>intro j h;omega
 | succ i ih =>
  intro j hj
  rw [kF]
  by_cases h:lgt (tl l i) (tl l (kF l i))=true
  · rw [if_pos h]
    by_cases e:j=i
    · subst e;exact lgt_self _
    · have h1:=ih j (by omega)
      rw [Bool.eq_false_iff] at h1 |-
      intro h2
      apply h1
      rw [lgt_iff] at h h2 |-
      omega
  · rw [if_neg h]
    by_cases e:j=i
    · subst e;exact Bool.eq_false_iff.2 h
    · exact ih j (by omega)
def tof (W T:Nat->Int) (r:Nat):Tr:=⟨fun i=>decide (T i=(r:Int)),W r⟩
structure Reps (W T:Nat->Int) (rs:List Nat):Prop where
 nd:rs.Nodup
 mem:∀ r,r ∈ rs ↔ r<16/\W r ≠ 0
 self:∀ r,r ∈ rs->T r=(r:Int)
 least:∀ r,r ∈ rs->∀ i,T i=(r:Int)->r<=i
theorem lsF_is {h:Nat->Bool} {r:Nat} (hr:h r=true):∀ m k,k<=r->r<k+m->(∀ i,k<=i->i<r->h i=false)->lsF h m k=r:=by
 intro m
 induction m with
 | zero=>intro k h1 h2 _;omega
 | succ m ih =>
  intro k h1 h2 h3
  rw [lsF]
  by_cases e:k=r
  · subst e;rw [if_pos hr]
  · rw [if_neg (by simp [h3 k (Nat.le_refl _) (by omega)])]
    exact ih (k+1) (by omega) (by omega) (fun i h4 h5=>h3 i (by omega) h5)
theorem Reps.ls {W T:Nat->Int} {rs:List Nat} (H:Reps W T rs) {r:Nat} (hr:r ∈ rs):ls (tof W T r).h=r:=by
 have h16:=((H.mem r).1 hr).1
 refine lsF_is (by simp [tof,H.self r hr]) 16 0 (by omega) (by omega) (fun i _ hi=>?_)
 simp only [tof,decide_eq_false_iff_not]
 intro h
 have:=H.least r hr i h
 omega
theorem tl_map {W T:Nat->Int} {rs:List Nat} {j:Nat} (h:j<rs.length):tl (rs.map (tof W T)) j=tof W T rs[j]:=by
 simp [tl,List.getD_eq_getElem?_getD,List.getElem?_eq_getElem h]
theorem map_erase {α β:Type} (f:α->β):∀ (l:List α) (k:Nat),(l.map f).eraseIdx k=(l.eraseIdx k).map f
 | [],_=>by simp
 | _ :: _,0=>by simp
 | a :: l,k+1=>by simp [map_erase f l k]
theorem first_of {W T:Nat->Int} {rs:List Nat} (hls:∀ r,r ∈ rs->ls (tof W T r).h=r) (hn:rs ≠ []):∃ k,∃ h:k<rs.length,fst (rs.map (tof W T))=tof W T rs[k]/\oth (rs.map (tof W T))=(rs.eraseIdx k).map (tof W T)/\∀ r,r ∈ rs->W rs[k]<W r\/(W rs[k]=W r/\rs[k]<=r):=by
 have hl:0<rs.length:=List.length_pos_iff.2 hn
 obtain ⟨k,hk⟩:∃ k,kF (rs.map (tof W T)) (rs.map (tof W T)).length=k:=⟨_,rfl⟩
 have hlt:=kF_lt (rs.map (tof W T)) (rs.map (tof W T)).length
 rw [hk,List.length_map] at hlt
 have hkl:k<rs.length:=by omega
 refine ⟨k,hkl,?_,?_,fun r hr=>?_⟩
 · rw [fst,hk,tl_map hkl]
 · rw [oth_erase,hk,map_erase]
 · obtain ⟨j,hj,rfl⟩:=List.getElem_of_mem hr
   have h1:=kF_min (rs.map (tof W T)) (rs.map (tof W T)).length j (by rw [List.length_map];exact hj)
   rw [hk,tl_map hj,tl_map hkl,Bool.eq_false_iff] at h1
   rw [Ne,lgt_iff,hls _ (List.getElem_mem hj),hls _ (List.getElem_mem hkl)] at h1
   simp only [tof] at h1
   omega
theorem lt2_lex (W:Nat->Int):∀ k,(∀ i,i<k->W i ≠ 0->(lt2 W k).1 ≠ -1/\(W (lt2 W k).1.toNat<W i\/(W (lt2 W k).1.toNat=W i/\(lt2 W k).1<=(i:Int))))/\(∀ i,i<k->W i ≠ 0->(i:Int) ≠ (lt2 W k).1->(lt2 W k).2 ≠ -1/\(W (lt2 W k).2.toNat<W i\/(W (lt2 W k).2.toNat=W i/\(lt2 W k).2<=(i:Int)))):=by
 intro k
 induction k with
 | zero=>exact ⟨fun i h=>by omega,fun i h=>by omega⟩
 | succ k ih =>
  obtain ⟨i1,i2⟩:=ih
  have hs:=lt2_sg W k
  have hb:∀ a,Sg W k a->a<(k:Int):=fun a h=>by rcases h with h | ⟨p,h1,h2,_⟩ <;> omega
  have b1:=hb _ hs.1
  have b2:=hb _ hs.2
  rw [lt2,ltS]
  generalize lt2 W k=P at *
  obtain ⟨A,B⟩:=P
  simp only at *
  by_cases h0:W k=0
  · rw [if_pos h0]
    refine ⟨fun i hi ni=>i1 i ?_ ni,fun i hi ni=>i2 i ?_ ni⟩ <;> (by_cases e:i=k;(subst e;exact absurd h0 ni);omega)
  · rw [if_neg h0]
    by_cases h1:A=-1\/W k<W A.toNat
    · rw [if_pos h1]
      simp only [Int.toNat_natCast]
      refine ⟨fun i hi ni=>⟨by omega,?_⟩,fun i hi ni ne=>?_⟩
      · by_cases e:i=k
        · subst e;omega
        · have:=i1 i (by omega) ni;omega
      · exact i1 i (by omega) ni
    · rw [if_neg h1]
      by_cases h2:B=-1\/W k<W B.toNat
      · rw [if_pos h2]
        simp only [Int.toNat_natCast]
        refine ⟨fun i hi ni=>?_,fun i hi ni ne=>⟨by omega,?_⟩⟩
        · by_cases e:i=k
          · subst e;omega
          · exact i1 i (by omega) ni
        · by_cases e:i=k
          · subst e;omega
          · have:=i2 i (by omega) ni ne;omega
      · rw [if_neg h2]
        simp only
        refine ⟨fun i hi ni=>?_,fun i hi ni ne=>?_⟩
        · by_cases e:i=k
          · subst e;omega
          · exact i1 i (by omega) ni
        · by_cases e:i=k
          · subst e;omega
          · exact i2 i (by omega) ni ne
theorem nd_inj {rs:List Nat} (h:rs.Nodup) {i j:Nat} (hi:i<rs.length) (hj:j<rs.length) (e:rs[i]=rs[j]):i=j:=by
 have h1:=List.pairwise_iff_getElem.1 h
 rcases Nat.lt_trichotomy i j with h2 | h2 | h2
 · exact absurd e (h1 i j hi hj h2)
 · exact h2
 · exact absurd e.symm (h1 j i hj hi h2)
theorem mem_erase {rs:List Nat} (h:rs.Nodup) {k:Nat} (hk:k<rs.length) (x:Nat):x ∈ rs.eraseIdx k ↔ x ∈ rs/\x ≠ rs[k]:=by
 rw [List.mem_eraseIdx_iff_getElem]
 constructor
 · rintro ⟨i,hi,hne,rfl⟩
   exact ⟨List.getElem_mem _,fun e=>hne (nd_inj h hi hk e)⟩
 · rintro ⟨h1,h2⟩
   obtain ⟨i,hi,rfl⟩:=List.getElem_of_mem h1
   exact ⟨i,hi,fun e=>h2 (by subst e;rfl),rfl⟩
theorem nd_erase {rs:List Nat} (h:rs.Nodup) (k:Nat):(rs.eraseIdx k).Nodup:=List.Nodup.sublist (List.eraseIdx_sublist rs k) h
theorem boR_bldR:∀ n (W T L:Nat->Int) (rs:List Nat),Reps W T rs->(∀ i,i<16->0<=W i)->boR n (rs.map (tof W T)) L=bldR n W T L:=by
 intro n
 induction n with
 | zero=>intro W T L rs _ _;rfl
 | succ n ih =>
  intro W T L rs H hW
  obtain ⟨x1,x2⟩:=lt2_lex W 16
  by_cases hsec:(lt2 W 16).2=-1
  · rw [bldR_end hsec,boR,if_pos]
    rw [List.length_map]
    rcases Nat.lt_or_ge 1 rs.length with h | h
    · exfalso
      have m0:=(H.mem _).1 (List.getElem_mem (show 0<rs.length by omega))
      have m1:=(H.mem _).1 (List.getElem_mem h)
      have hne:rs[0] ≠ rs[1]:=fun e=>by have:=nd_inj H.nd (by omega) h e;omega
      by_cases e:((rs[0]:Nat):Int)=(lt2 W 16).1
      · exact (x2 rs[1] m1.1 m1.2 (by omega)).1 hsec
      · exact (x2 rs[0] m0.1 m0.2 e).1 hsec
    · exact h
  · obtain ⟨p,q,hpq,hp,hq,hne,np,nq⟩:=lt2_two hsec
    rw [hpq] at x1 x2
    simp only [Int.toNat_natCast] at x1 x2
    have mp:p ∈ rs:=(H.mem p).2 ⟨hp,np⟩
    have mq:q ∈ rs:=(H.mem q).2 ⟨hq,nq⟩
    have hls:∀ r,r ∈ rs->ls (tof W T r).h=r:=fun r hr=>H.ls hr
    obtain ⟨k1,hk1,f1,o1,l1⟩:=first_of hls (List.ne_nil_of_mem mp)
    have e1:rs[k1]=p:=by
     have a1:=l1 p mp
     have m1:=(H.mem _).1 (List.getElem_mem hk1)
     have a2:=x1 rs[k1] m1.1 m1.2
     omega
    rw [e1] at f1 l1
    have hm1:=mem_erase H.nd hk1
    rw [e1] at hm1
    have hnd1:=nd_erase H.nd k1
    have hlen:¬ (rs.map (tof W T)).length<=1:=by
     rw [List.length_map]
     intro h
     obtain ⟨i,hi,e⟩:=List.getElem_of_mem mp
     obtain ⟨j,hj,e'⟩:=List.getElem_of_mem mq
     have:i=j:=by omega
     subst this
     exact hne (by rw [<-e,<-e'])
    generalize rs.eraseIdx k1=rs1 at *
    have mq1:q ∈ rs1:=(hm1 q).2 ⟨mq,fun e=>hne e.symm⟩
    obtain ⟨k2,hk2,f2,o2,l2⟩:=first_of (fun r hr=>hls r ((hm1 r).1 hr).1) (List.ne_nil_of_mem mq1)
    have e2:rs1[k2]=q:=by
     have a1:=l2 q mq1
     have b1:=(hm1 _).1 (List.getElem_mem hk2)
     have m1:=(H.mem _).1 b1.1
     have a2:=x2 rs1[k2] m1.1 m1.2 (by omega)
     omega
    rw [e2] at f2 l2
    have hm2:=mem_erase hnd1 hk2
    rw [e2] at hm2
    have hnd2:=nd_erase hnd1 k2
    generalize rs1.eraseIdx k2=rs2 at *
    have hr2:∀ r,r ∈ rs2 ↔ r ∈ rs/\r ≠ p/\r ≠ q:=fun r=>by rw [hm2,hm1];exact ⟨fun h=>⟨h.1.1,h.1.2,h.2⟩,fun h=>⟨⟨h.1,h.2.1⟩,h.2.2⟩⟩
    obtain ⟨w1,w2,w3⟩:=rW_at (W:=W) hne
    have hWp:=hW p hp
    have hWq:=hW q hq
    rw [boR,if_neg hlen,f1,o1,f2,o2,bldR_next hpq]
    have eL:incr (mrg (tof W T p) (tof W T q)) L=rL T L p q:=by
     funext i
     simp only [incr,mrg,tof,rL,Bool.or_eq_true,decide_eq_true_eq]
    have eM:mrg (tof W T p) (tof W T q)=tof (rW W p q) (rT T p q) (min p q):=by
     unfold mrg tof
     rw [w1]
     congr 1
     funext i
     rw [Bool.eq_iff_iff,Bool.or_eq_true,decide_eq_true_eq,decide_eq_true_eq,decide_eq_true_eq]
     by_cases h:T i=(p:Int)\/T i=(q:Int)
     · have hT:rT T p q i=((min p q:Nat):Int):=if_pos h
       exact ⟨fun _=>hT,fun _=>h⟩
     · have hT:rT T p q i=T i:=if_neg h
       rw [hT]
       omega
    have eR:rs2.map (tof W T)=rs2.map (tof (rW W p q) (rT T p q)):=by
     apply List.map_congr_left
     intro r hr
     obtain ⟨_,n1,n2⟩:=(hr2 r).1 hr
     unfold tof
     rw [w3 r n1 n2]
     congr 1
     funext i
     rw [Bool.eq_iff_iff,decide_eq_true_eq,decide_eq_true_eq]
     by_cases h:T i=(p:Int)\/T i=(q:Int)
     · have hT:rT T p q i=((min p q:Nat):Int):=if_pos h
       rw [hT]
       omega
     · have hT:rT T p q i=T i:=if_neg h
       rw [hT]
    rw [eL,eM,eR,<-List.map_singleton,<-List.map_append]
    refine ih (rW W p q) (rT T p q) (rL T L p q) (rs2++[min p q]) ⟨?_,fun r=>?_,fun r hr=>?_,fun r hr i hi=>?_⟩ (rW_pos hW hp hq)
    · rw [List.nodup_append]
      refine ⟨hnd2,by simp,fun a ha b hb=>?_⟩
      simp only [List.mem_singleton] at hb
      have:=(hr2 a).1 ha
      omega
    · rw [List.mem_append,List.mem_singleton,hr2 r,H.mem r]
      by_cases e:r=min p q
      · subst e
        rw [w1]
        refine ⟨fun _=>⟨by omega,by omega⟩,fun _=>.inr rfl⟩
      · by_cases e2:r=max p q
        · subst e2
          rw [w2]
          refine ⟨fun h=>?_,fun h=>absurd rfl h.2⟩
          rcases h with h | h
          · omega
          · omega
        · rw [w3 r (by omega) (by omega)]
          refine ⟨fun h=>?_,fun h=>.inl ⟨h,by omega,by omega⟩⟩
          rcases h with h | h
          · exact h.1
          · exact absurd h e
    · rw [List.mem_append,List.mem_singleton] at hr
      rcases hr with hr | hr
      · obtain ⟨m,n1,n2⟩:=(hr2 r).1 hr
        have:=H.self r m
        simp only [rT]
        rw [if_neg (by omega),this]
      · subst hr
        have h1:=H.self p mp
        have h2:=H.self q mq
        simp only [rT]
        by_cases h:p<=q
        · rw [show min p q=p by omega,if_pos (.inl h1)]
        · rw [show min p q=q by omega,if_pos (.inr h2)]
    · rw [List.mem_append,List.mem_singleton] at hr
      simp only [rT] at hi
      rcases hr with hr | hr
      · obtain ⟨m,n1,n2⟩:=(hr2 r).1 hr
        by_cases h:T i=(p:Int)\/T i=(q:Int)
        · rw [if_pos h] at hi;omega
        · rw [if_neg h] at hi;exact H.least r m i hi
      · subst hr
        by_cases h:T i=(p:Int)\/T i=(q:Int)
        · rcases h with h | h
          · have:=H.least p mp i h;omega
          · have:=H.least q mq i h;omega
        · rw [if_neg h] at hi;omega
def in0 (c:Nat->Int):Nat->List Nat
 | 0=>[]
 | k+1=>if 0<c k then in0 c k++[k] else in0 c k
theorem in0_mem (c:Nat->Int):∀ k r,r ∈ in0 c k ↔ r<k/\0<c r:=by
 intro k
 induction k with
 | zero=>intro r;simp [in0]
 | succ k ih =>
  intro r
  rw [in0]
  by_cases h:0<c k
  · rw [if_pos h,List.mem_append,ih,List.mem_singleton]
    constructor
    · rintro (h1 | h1)
      · exact ⟨by omega,h1.2⟩
      · subst h1;exact ⟨by omega,h⟩
    · rintro ⟨h1,h2⟩
      by_cases e:r=k
      · exact .inr e
      · exact .inl ⟨by omega,h2⟩
  · rw [if_neg h,ih]
    constructor
    · rintro ⟨h1,h2⟩;exact ⟨by omega,h2⟩
    · rintro ⟨h1,h2⟩
      by_cases e:r=k
      · subst e;exact absurd h2 h
      · exact ⟨by omega,h2⟩
theorem in0_nd (c:Nat->Int):∀ k,(in0 c k).Nodup:=by
 intro k
 induction k with
 | zero=>simp [in0]
 | succ k ih =>
  rw [in0]
  split
  · rw [List.nodup_append]
    refine ⟨ih,by simp,fun a ha b hb=>?_⟩
    simp only [List.mem_singleton] at hb
    have:=(in0_mem c k a).1 ha
    omega
  · exact ih
theorem in0_len (c:Nat->Int):∀ k,(in0 c k).length<=k:=by
 intro k
 induction k with
 | zero=>simp [in0]
 | succ k ih =>
  rw [in0]
  split
  · simp;omega
  · omega
theorem in0_reps {c:Nat->Int} (hc:∀ i,i<16->0<=c i):Reps c (fun i=>i) (in0 c 16) :=
 ⟨in0_nd c 16,fun r=>by
  rw [in0_mem]
  constructor
  · rintro ⟨h1,h2⟩;exact ⟨h1,by omega⟩
  · rintro ⟨h1,h2⟩;have:=hc r h1;exact ⟨h1,by omega⟩,fun r _=>rfl,fun r _ i h=>by have h9:((i:Nat):Int)=(r:Int):=h;omega⟩
theorem bld_cases {c:Nat->Int} (h:InR c 2048 16):(in0 c 16=[]->bld c=(fun _=>0,5))/\(∀ r,in0 c 16=[r]->bld c=(upd (fun _=>0) r 1,0))/\(2<=(in0 c 16).length->bld c=(boR 16 ((in0 c 16).map (tof c fun i=>i)) (fun _=>0),0)):=by
 have hc:∀ i,i<16->0<=c i:=fun i hi=>(h i hi).1
 obtain ⟨x1,x2⟩:=lt2_lex c 16
 obtain ⟨s1,s2⟩:=lt2_sg c 16
 refine ⟨fun e=>?_,fun r e=>?_,fun e=>?_⟩
 · rcases s1 with s1 | ⟨p,e1,hp,np⟩
   · rw [bld,if_neg (fun h9=>h9 h),if_pos s1]
   · exfalso
     have:=(in0_mem c 16 p).2 ⟨hp,by have:=hc p hp;omega⟩
     rw [e] at this
     simp at this
 · have mr:=(in0_mem c 16 r).1 (by rw [e];simp)
   have hf:=x1 r mr.1 (by omega)
   have hfst:(lt2 c 16).1=(r:Int):=by
    rcases s1 with s1 | ⟨p,e1,hp,np⟩
    · exact absurd s1 hf.1
    · have:=(in0_mem c 16 p).2 ⟨hp,by have:=hc p hp;omega⟩
      rw [e,List.mem_singleton] at this
      omega
   have hsec:(lt2 c 16).2=-1:=by
    by_cases h9:(lt2 c 16).2=-1
    · exact h9
    · exfalso
      obtain ⟨p,q,hpq,hp,hq,hne,np,nq⟩:=lt2_two h9
      have m1:=(in0_mem c 16 p).2 ⟨hp,by have:=hc p hp;omega⟩
      have m2:=(in0_mem c 16 q).2 ⟨hq,by have:=hc q hq;omega⟩
      rw [e,List.mem_singleton] at m1 m2
      omega
   rw [bld,if_neg (fun h9=>h9 h),if_neg hf.1,if_pos hsec,hfst,Int.toNat_natCast]
 · have m0:=(in0_mem c 16 _).1 (List.getElem_mem (show 0<(in0 c 16).length by omega))
   have m1:=(in0_mem c 16 _).1 (List.getElem_mem (show 1<(in0 c 16).length by omega))
   have hne:(in0 c 16)[0] ≠ (in0 c 16)[1]:=fun e9=>by have:=nd_inj (in0_nd c 16) (by omega) (by omega) e9;omega
   have hf:=x1 _ m0.1 (by omega)
   have hsec:(lt2 c 16).2 ≠ -1:=by
    by_cases e9:(((in0 c 16)[0]:Nat):Int)=(lt2 c 16).1
    · exact (x2 _ m1.1 (by omega) (by omega)).1
    · exact (x2 _ m0.1 (by omega) e9).1
   rw [bld,if_neg (fun h9=>h9 h),if_neg hf.1,if_neg hsec,boR_bldR 16 c (fun i=>i) _ _ (in0_reps hc) hc]
def sw (l:List Tr):Int:=(l.map (·.w)).sum
theorem sw_erase:∀ (l:List Tr) (k:Nat) (h:k<l.length),sw (l.eraseIdx k)+l[k].w=sw l
 | a :: l,0,_=>by simp [sw];omega
 | a :: l,k+1,h=>by
  have:=sw_erase l k (by simpa using h)
  simp only [sw,List.eraseIdx_cons_succ,List.map_cons,List.sum_cons,List.getElem_cons_succ] at this |-
  omega
theorem tl_get {l:List Tr} {k:Nat} (h:k<l.length):tl l k=l[k]:=by simp [tl,List.getD_eq_getElem?_getD,List.getElem?_eq_getElem h]
theorem fst_lt {l:List Tr} (h:1<=l.length):kF l l.length<l.length:=by have:=kF_lt l l.length;omega
theorem oth_len {l:List Tr} (h:1<=l.length):(oth l).length+1=l.length:=by
 rw [oth_erase,List.length_eraseIdx_of_lt (fst_lt h)]
 omega
theorem oth_sw {l:List Tr} (h:1<=l.length):sw (oth l)+(fst l).w=sw l:=by
 rw [oth_erase,fst,tl_get (fst_lt h)]
 exact sw_erase l _ _
theorem oth_pos {l:List Tr} (h:1<=l.length) (hw:∀ t,t ∈ l->0<=t.w):(∀ t,t ∈ oth l->0<=t.w)/\0<=(fst l).w:=by
 refine ⟨fun t ht=>?_,?_⟩
 · rw [oth_erase] at ht
   exact hw t (List.mem_of_mem_eraseIdx ht)
 · rw [fst,tl_get (fst_lt h)]
   exact hw _ (List.getElem_mem _)
theorem sw_pos:∀ (l:List Tr),(∀ t,t ∈ l->0<=t.w)->0<=sw l
 | [],_=>by simp [sw]
 | a :: l,h=>by
  have:=sw_pos l (fun t ht=>h t (by simp [ht]))
  have h1:=h a (by simp)
  simp only [sw,List.map_cons,List.sum_cons] at this |-
  omega
theorem sw_app (l:List Tr) (t:Tr):sw (l++[t])=sw l+t.w:=by simp [sw]
structure Fine (l:List Tr) (L:Nat->Int):Prop where
 len:l.length<=16
 pos:∀ t,t ∈ l->0<=t.w
 sum:sw l<=32768
 low:∀ i,0<=L i/\L i+(l.length:Int)<=16
theorem Fine.two {l:List Tr} {L:Nat->Int} (H:Fine l L) (h:2<=l.length):0<=(fst l).w/\0<=(fst (oth l)).w/\(fst l).w+(fst (oth l)).w<=32768/\(oth l).length+1=l.length/\(oth (oth l)).length+2=l.length/\Fine (oth (oth l)++[mrg (fst l) (fst (oth l))]) (incr (mrg (fst l) (fst (oth l))) L):=by
 have l1:=oth_len (l:=l) (by omega)
 have l2:=oth_len (l:=oth l) (by omega)
 have s1:=oth_sw (l:=l) (by omega)
 have s2:=oth_sw (l:=oth l) (by omega)
 obtain ⟨p1,q1⟩:=oth_pos (l:=l) (by omega) H.pos
 obtain ⟨p2,q2⟩:=oth_pos (l:=oth l) (by omega) p1
 have p3:=sw_pos _ p2
 have hs:=H.sum
 refine ⟨q1,q2,by omega,l1,by omega,?_,fun t ht=>?_,?_,fun i=>?_⟩
 · have:=H.len;rw [List.length_append,List.length_singleton];omega
 · rw [List.mem_append,List.mem_singleton] at ht
   rcases ht with ht | ht
   · exact p2 t ht
   · subst ht;show 0<=(fst l).w+(fst (oth l)).w;omega
 · rw [sw_app]
   show sw (oth (oth l))+((fst l).w+(fst (oth l)).w)<=_
   omega
 · have:=H.low i
   rw [List.length_append,List.length_singleton]
   unfold incr
   split <;> omega
theorem sw_le:∀ (l:List Tr),(∀ t,t ∈ l->t.w<=2048)->sw l<=2048*l.length
 | [],_=>by simp [sw]
 | a :: l,h=>by
  have:=sw_le l (fun t ht=>h t (by simp [ht]))
  have h1:=h a (by simp)
  simp only [sw,List.map_cons,List.sum_cons,List.length_cons] at this |-
  omega
theorem fine0 {c:Nat->Int} (h:InR c 2048 16):Fine ((in0 c 16).map (tof c fun i=>i)) (fun _=>0):=by
 have hl:=in0_len c 16
 have hb:∀ t,t ∈ (in0 c 16).map (tof c fun i=>i)->0<=t.w/\t.w<=2048:=fun t ht=>by
  obtain ⟨r,hr,rfl⟩:=List.mem_map.1 ht
  exact h r ((in0_mem c 16 r).1 hr).1
 have hs:=sw_le _ (fun t ht=>(hb t ht).2)
 rw [List.length_map] at hs
 refine ⟨by rw [List.length_map];exact hl,fun t ht=>(hb t ht).1,by omega,fun i=>⟨by omega,by rw [List.length_map];omega⟩⟩
end Cd
end Go.Proofs.YtbjbjbpgmojcbabGreat
namespace Go.Proofs.YtbjbjbpgmojcbabGreat
open Go.RowKit
theorem wpList_build_w {ops:Array Oper} {rest:List Oper} {o:Oper} {a:Act} {w:World} {Q:Exit->Act->World->Prop} (hg:o.guard=none) (x:Operand) (ho:o.op=.build 205 #[(1,x)]) (c:Int) (hx:a.eval x=.int .i64 c)
 (h:wpList Tryz.prog ops Q rest (a.put o.dst (.agg (trc ⟨fun _=>false,c⟩))) w):wpList Tryz.prog ops Q (o :: rest) a w:=by
 have hb:Tryz.prog.built 205 [(1,.int .i64 c)]=some (trc ⟨fun _=>false,c⟩):=by kernel_rfl
 have he:((#[(1,x)]:Array (Nat × Operand)).map fun (i,x)=>(i,a.eval x)).toList=[(1,.int .i64 c)]:=by
  simp only [List.map_toArray,List.map_cons,List.map_nil,hx]
 refine wpList_build hg 205 _ ho ?_ ?_
 · rw [he,hb];rfl
 · rw [he,hb];exact h
def Tr.set (t:Tr) (k:Nat) (b:Bool):Tr:=⟨fun j=>if j=k then b else t.h j,t.w⟩
theorem trc_set (t:Tr) (k:Nat) (hk:k<16) (b:Bool):(trc t).setIfInBounds k (.bool b)=trc (t.set k b):=by
 apply Array.ext_getElem?
 intro i
 rw [Array.getElem?_setIfInBounds,trc_size]
 by_cases hi:i<16
 · rw [trc_h _ i hi,trc_h _ i hi]
   by_cases e:k=i
   · subst e
     rw [if_pos rfl,if_pos (by omega)]
     simp [Tr.set]
   · rw [if_neg e]
     have e':¬ i=k:=fun h=>e h.symm
     simp [Tr.set,e']
 · rw [if_neg (by omega)]
   by_cases h16:i=16
   · subst h16;rw [trc_w,trc_w];rfl
   · rw [Array.getElem?_eq_none (by rw [trc_size];omega),Array.getElem?_eq_none (by rw [trc_size];omega)]
theorem TrAt.set {w:World} {g:Nat} {t:Tr} (H:TrAt w g t) (k:Nat) (hk:k<16) (b:Bool):TrAt (w.setCell ⟨g,k,none⟩ (.bool b)) g (t.set k b):=by
 refine ⟨by have:=H.1;simpa [World.setCell] using this,?_⟩
 rw [heap_set H.2,trc_set t k hk]
theorem TrAt.setFar {w:World} {g:Nat} {t:Tr} (H:TrAt w g t) {q:Nat} (hq:q ≠ g) (k:Nat) (v:Value):TrAt (w.setCell ⟨q,k,none⟩ v) g t:=by
 refine ⟨by have:=H.1;simpa [World.setCell] using this,?_⟩
 rw [heap_far hq]
 exact H.2
theorem TrAt.congr {w:World} {g:Nat} {s t:Tr} (H:TrAt w g s) (h:∀ i,i<16->s.h i=t.h i) (hw:s.w=t.w):TrAt w g t:=⟨H.1,by rw [H.2,trc_congr h hw]⟩
theorem RowAt.block {w w':World} {g:Nat} {f:Nat->Int} (H:RowAt w g f) (he:w'.heap[g]?=w.heap[g]?):RowAt w' g f:=by
 have h2:=he.trans H.2
 exact ⟨(Array.getElem?_eq_some_iff.1 h2).1,h2⟩
theorem own_setFar {w:World} {base g k:Nat} {x:Value} {t:TypeId} {sz n:Nat} {v:Value} {cs:List Value} (ho:w.ownsRow base t sz v n cs) (hne:v.ownBlock ≠ some g):(w.setCell ⟨g,k,none⟩ x).ownsRow base t sz v n cs:=by
 refine ⟨ho.1,?_⟩
 rcases ho.2 with h0 | ⟨q,cap,cur,rfl,e1,e2,e3⟩
 · exact .inl h0
 · refine .inr ⟨q,cap,cur,rfl,e1,?_,e3⟩
   rw [heap_far (fun e=>hne (by rw [e];rfl))]
   exact e2
theorem step_has {a b:Nat->Bool} {k j:Nat} {x:Bool} {W:Int} (h:x=(a k || b k)):(Tr.set ⟨fun j=>decide (j<k) && (a j || b j),W⟩ k x).h j=(decide (j<k+1) && (a j || b j)):=by
 simp only [Tr.set]
 by_cases e:j=k
 · subst e;rw [if_pos rfl,h];simp
 · rw [if_neg e]
   by_cases h1:j<k
   · simp [h1,show j<k+1 by omega]
   · simp [h1,show ¬ j<k+1 by omega]
theorem step_inc {ta tb:Tr} {L:Nat->Int} {k j:Nat} (h:(ta.h k || tb.h k)=true):upd (fun j=>if j<k then Cd.incr (Cd.mrg ta tb) L j else L j) k (L k+1) j=if j<k+1 then Cd.incr (Cd.mrg ta tb) L j else L j:=by
 unfold upd
 by_cases e:j=k
 · subst e
   rw [if_pos rfl,if_pos (by omega),Cd.incr,if_pos (by simpa [Cd.mrg] using h)]
 · rw [if_neg e]
   simp only
   by_cases h1:j<k
   · rw [if_pos h1,if_pos (by omega)]
   · rw [if_neg h1,if_neg (by omega)]
theorem step_no {ta tb:Tr} {L:Nat->Int} {k j:Nat} (h:(ta.h k || tb.h k)=false):(if j<k then Cd.incr (Cd.mrg ta tb) L j else L j)=if j<k+1 then Cd.incr (Cd.mrg ta tb) L j else L j:=by
 by_cases e:j=k
 · subst e
   rw [if_neg (by omega),if_pos (by omega),Cd.incr,if_neg (by simp only [Cd.mrg,h];simp)]
 · by_cases h1:j<k
   · rw [if_pos h1,if_pos (by omega)]
   · rw [if_neg h1,if_neg (by omega)]
theorem setRow_new {w:World} {N:Nat} (h:w.heap.size=N) (c c':Array Value) (t:TypeId):(w.alloc (.cells c t)).setRow N c'=w.alloc (.cells c' t):=by subst h;exact World.setRow_alloc_new w c c' t
theorem heap_new {w:World} {N:Nat} (h:w.heap.size=N) (o:Obj):(w.alloc o).heap[N]?=some o:=by subst h;exact heap_alloc_last w o
theorem TrAt.newN {w:World} {N:Nat} (h:w.heap.size=N) (t:Tr):TrAt (w.alloc (.cells (trc t) 205)) N t:=by subst h;exact TrAt.new w t
theorem own_form {w:World} {base:Nat} {t:TypeId} {sz n:Nat} {v:Value} {cs:List Value} (ho:w.ownsRow base t sz v n cs):∃ ad cap,v=.slice ad n cap:=by
 rcases ho.2 with ⟨h,h0⟩ | ⟨q,cap,cur,h,_⟩
 · exact ⟨none,0,by rw [h,h0]⟩
 · exact ⟨_,cap,h⟩
theorem own_mono {w:World} {base base':Nat} {t:TypeId} {sz n:Nat} {v:Value} {cs:List Value} (ho:w.ownsRow base' t sz v n cs) (h:base<=base'):w.ownsRow base t sz v n cs:=by
 refine ⟨ho.1,?_⟩
 rcases ho.2 with h0 | ⟨q,cap,cur,rfl,e1,e2,e3⟩
 · exact .inl h0
 · exact .inr ⟨q,cap,cur,rfl,by omega,e2,e3⟩
theorem buildOf_range (c:Nat->Int) (w:World) (h1:¬ Cd.InR c 2048 16) :
 Calls Tryz.prog 166 #[.agg (arr c)] w fun e w'=>e=.returned (.tuple #[.agg (arr (fun _=>0)),.int .i64 3])/\Below w.heap.size w w':=by
 have hcn:=fun w=>countsFine_any c w
 rw [decide_eq_false h1] at hcn
 have hin:=arr_infoc c
 have hz:=arr_infoc (fun _=>0)
 obtain ⟨R1,R2,R4,HB⟩:=three w c (fun _=>0)
 rw [<-arr_zero] at R1 R2 R4 HB
 clear h1
 go_enter Tryz.func166,Tryz.ntmps166
 go_wp2_with (refine wpList_load_row rfl 127 _ rfl w.heap.size rfl 127 (arr c) (0,0) _ R1.2 Tryz.underlying127 rfl hin ?_)
 refine (hcn _).mono ?_
 rintro e w1 ⟨rfl,G1⟩
 have S2:=R2.below G1
 have S4:=R4.below G1
 have B1:=bch HB G1 (Nat.le_refl _)
 clear R1 R2 R4 HB G1 hcn
 go_wp2_with (first | refine wpList_load_row rfl 127 _ rfl (w.heap.size+1+1) rfl 127 (arr fun _=>0) (0,0) _ S4.2 Tryz.underlying127 rfl hz ?_ | refine wpList_store_row rfl 127 _ _ rfl (w.heap.size+1) (arr fun _=>0) rfl rfl 127 _ S2.2 hz rfl (arr_one _) ?_)
 have U2:=S2.setRow (fun _=>0)
 exact bodyPost_ret (v:=.tuple #[.agg (arr fun _=>0),.int .i64 3]) (results_row2 Tryz.results166 _ _ (w.heap.size+1) 127 _ (0,0) _ rfl U2.2 Tryz.underlying127 rfl hz _ rfl) rfl ⟨rfl,below_setRow B1 (Nat.le_succ _) _⟩
theorem buildOf_ok (c:Nat->Int) (w:World) (h1:Cd.InR c 2048 16) :
 Calls Tryz.prog 166 #[.agg (arr c)] w fun e w'=>e=.returned (.tuple #[.agg (arr (Cd.bld c).1),.int .i64 (Cd.bld c).2])/\Below w.heap.size w w':=by
 have hcn:=fun w=>countsFine_any c w
 rw [decide_eq_true h1] at hcn
 have hin:=arr_infoc c
 have hz:=arr_infoc (fun _=>0)
 have HR:Hid (Cd.InR c 2048 16):=h1
 obtain ⟨r1,r2,hr⟩:∃ r1 r2,Cd.bld c=(r1,r2):=⟨_,_,rfl⟩
 rw [hr]
 have Hr:Hid (Cd.bld c=(r1,r2)):=hr
 obtain ⟨R1,R2,R4,HB⟩:=three w c (fun _=>0)
 rw [<-arr_zero] at R1 R2 R4 HB
 clear h1 hr
 go_enter Tryz.func166,Tryz.ntmps166
 go_wp2_with (refine wpList_load_row rfl 127 _ rfl w.heap.size rfl 127 (arr c) (0,0) _ R1.2 Tryz.underlying127 rfl hin ?_)
 refine (hcn _).mono ?_
 rintro e w1 ⟨rfl,G1⟩
 have S1:=R1.below G1
 have S2:=R2.below G1
 have S4:=R4.below G1
 have B1:=bch HB G1 (Nat.le_refl _)
 clear R1 R2 R4 HB G1 hcn
 have hq:Hid (w.heap.size<w.heap.size+1/\w.heap.size+1<w.heap.size+1+1):=by show _/\_;omega
 generalize w.heap.size+1+1=g4 at *
 generalize w.heap.size+1=g2 at *
 go_wp2_with fail
 go_loopw [5,6] (fun v i wr=>∃ k:Nat,k<=16/\i=.int .i64 k/\wr.ownsRow (g4+1) 205 17 v ((Cd.in0 c k).map (Cd.tof c fun i=>i)).length (flat ((Cd.in0 c k).map (Cd.tof c fun i=>i)))/\RowAt wr w.heap.size c/\RowAt wr g2 (fun _=>0)/\RowAt wr g4 (fun _=>0)/\Below w.heap.size w wr) (fun _ i _=>20 - (intOf i).toNat)
 case atStart=>exact ⟨0,by omega,rfl,World.ownsRow_nil _ _ _ _,S1,S2,S4,B1⟩
 case round =>
  clear S1 S2 S4 B1
  obtain ⟨k,hk,rfl,ho,S1,S2,S4,B1⟩:=hrel
  have hl0:=Cd.in0_len c k
  by_cases hlt:k<16
  · have hk1:decide ((k:Int)<16)=true:=by simp;omega
    have hk2:decide (k<16)=true:=by simp;omega
    have hk3:(k:Int)<16:=by omega
    have c1:=S1.cell k hlt
    by_cases hc:0<c k
    · have d1:decide (0<c k)=true:=by simpa using hc
      have HE:Hid ((Cd.in0 c (k+1)).map (Cd.tof c fun i=>i)=(Cd.in0 c k).map (Cd.tof c fun i=>i)++[Cd.tof c (fun i=>i) k]):=by show _=_;rw [Cd.in0,if_pos hc,List.map_append];rfl
      have hll:((Cd.in0 c k).map (Cd.tof c fun i=>i)).length<=16:=by rw [List.length_map];omega
      have HT:Hid (trc (Tr.set ⟨fun _=>false,c k⟩ k true)=trc (Cd.tof c (fun i=>i) k)):=trc_congr (fun i _=>by
       simp only [Tr.set,Cd.tof]
       by_cases e:i=k
       · subst e;simp
       · have:¬ (i:Int)=(k:Int):=by omega
         simp [e,this]) rfl
      have T1:=TrAt.new wr ⟨fun _=>false,c k⟩
      have hi1:=trc_infoc ⟨fun _=>false,c k⟩
      have hi2:=trc_infoc (Tr.set ⟨fun _=>false,c k⟩ k true)
      have hoA:=fun o=>ho.alloc o
      have hA:∀ o,Below w.heap.size w (wr.alloc o):=fun o=>B1.alloc B1.size o
      have cT:=T1.cellh k hlt
      have fT:=T1.frozen k
      clear T1
      generalize (Cd.in0 c k).map (Cd.tof c fun i=>i)=l at *
      generalize c k=ck at *
      have T2:Hid ((wr.alloc (.cells ((trc ⟨fun _=>false,ck⟩).setIfInBounds k (.bool true)) 205)).heap[wr.heap.size]?=some (.cells (trc (Tr.set ⟨fun _=>false,ck⟩ k true)) 205 (0,0))):=by show _=_;rw [trc_set _ _ hlt];exact heap_alloc_last wr _
      have hg4:g4<wr.heap.size:=S4.1
      go_wp2_with (first | refine wpList_load_row rfl 205 _ rfl wr.heap.size rfl 205 (trc (Tr.set ⟨fun _=>false,ck⟩ k true)) (0,0) _ T2.out Tryz.underlying205 rfl hi2 ?_ | refine wpList_build_tree rfl _ rfl (Tr.set ⟨fun _=>false,ck⟩ k true) rfl ?_ | (at_builtin;go_must (refine wpList_append_tree rfl _ _ rfl (g4+1) _ l rfl (hoA _) (Tr.set ⟨fun _=>false,ck⟩ k true) rfl (by omega) (by simp;omega) ?_;intro v' w6 hown' hgrow)) | refine wpList_build_w rfl _ rfl ck rfl ?_ | (refine wpList_store_row rfl 205 _ _ rfl wr.heap.size (trc ⟨fun _=>false,ck⟩) rfl rfl 205 _ (heap_alloc_last wr _) hi1 rfl (trc_one _) ?_;rw [World.setRow_alloc_new]))
      have hne:∀ q,q<=g4->some q ≠ Value.ownBlock u5:=fun q hq9 e=>by have:=(ho.lt q e.symm).1;omega
      have hqq:=hq.out
      have bg:=fun q (h:q<=g4)=>block_grown (w:=wr.alloc (.cells ((trc ⟨fun _=>false,ck⟩).setIfInBounds k (.bool true)) 205)) (g:=q) (by simp;omega) (hne q h) hgrow
      have U1:=(S1.alloc (.cells ((trc ⟨fun _=>false,ck⟩).setIfInBounds k (.bool true)) 205)).block (bg _ (by omega))
      have U2:=(S2.alloc (.cells ((trc ⟨fun _=>false,ck⟩).setIfInBounds k (.bool true)) 205)).block (bg _ (by omega))
      have U4:=(S4.alloc (.cells ((trc ⟨fun _=>false,ck⟩).setIfInBounds k (.bool true)) 205)).block (bg _ (Nat.le_refl _))
      have B6:Below w.heap.size w w6:=((hA _).alloc (hA _).size _).grown hgrow (by have:=B1.size;simp;omega) (fun j hj=>by have:=(ho.lt j hj).1;omega)
      refine ⟨⟨k+1,by omega,by go_num,?_,U1,U2,U4,B6⟩,by simp [intOf];omega⟩
      rw [HE.out,flat_app,flat_one,<-HT.out,<-flat_one,<-flat_app,List.length_append]
      rw [List.length_append] at hown'
      exact hown'
    · have d1:decide (0<c k)=false:=by simpa using hc
      have HE:Hid (Cd.in0 c (k+1)=Cd.in0 c k):=by show _=_;rw [Cd.in0,if_neg hc]
      clear hc
      generalize c k=ck at *
      go_wp2_with fail
      exact ⟨⟨k+1,by omega,by go_num,by rw [HE.out];exact ho,S1,S2,S4,B1⟩,by simp [intOf];omega⟩
  · obtain rfl:k=16:=by omega
    obtain ⟨q0,q1,q2⟩:=Cd.bld_cases HR.out
    have HF:Hid (Cd.Fine ((Cd.in0 c 16).map (Cd.tof c fun i=>i)) (fun _=>0)):=Cd.fine0 HR.out
    have hl1:=ho.1
    rw [flat_len] at hl1
    clear S1 hl0 hin
    rcases hcs:Cd.in0 c 16 with _ | ⟨r,_ | ⟨r',rr⟩⟩
    · have h8:=Hr.out.symm.trans (q0 hcs)
      simp only [Prod.mk.injEq] at h8
      obtain ⟨rfl,rfl⟩:=h8
      rw [hcs] at ho
      obtain ⟨ad,cap,hv⟩:=own_form ho
      subst hv
      clear hcs q0 q1 q2 hl1 HF
      go_wp2_with (first | refine wpList_load_row rfl 127 _ rfl g4 rfl 127 (arr fun _=>0) (0,0) _ S4.2 Tryz.underlying127 rfl hz ?_ | refine wpList_store_row rfl 127 _ _ rfl g2 (arr fun _=>0) rfl rfl 127 _ S2.2 hz rfl (arr_one _) ?_)
      have U2:=S2.setRow (fun _=>0)
      exact bodyPost_ret (v:=.tuple #[.agg (arr fun _=>0),.int .i64 5]) (results_row2 Tryz.results166 _ _ g2 127 _ (0,0) _ rfl U2.2 Tryz.underlying127 rfl hz _ rfl) rfl ⟨rfl,below_setRow B1 (Nat.le_of_lt hq.out.1) _⟩
    · have h8:=Hr.out.symm.trans (q1 r hcs)
      simp only [Prod.mk.injEq] at h8
      obtain ⟨rfl,rfl⟩:=h8
      have hr16:=((Cd.in0_mem c 16 r).1 (by rw [hcs];simp)).1
      have hlsr:=(Cd.in0_reps (c:=c) (fun i hi=>(HR.out i hi).1)).ls (r:=r) (by rw [hcs];simp)
      rw [hcs] at ho
      obtain ⟨g,cap,hv,hg,hgl,hrg⟩:=own_trees ho (by simp)
      subst hv
      have rt:=flat_range hrg (i:=0) (by simp)
      have hls:=fun w=>leastSign_any (Cd.tof c (fun i=>i) r) w
      rw [hlsr] at hls
      have htl:tl (List.map (Cd.tof c fun i=>i) [r]) 0=Cd.tof c (fun i=>i) r:=rfl
      rw [htl] at rt
      have hi1:=arr_infoc (upd (fun _=>0) r 1)
      generalize Cd.tof c (fun i=>i) r=t at *
      have hrI:(r:Int)<16:=by omega
      clear hcs q0 q1 q2 hl1 HF hlsr htl
      go_wp2_with (first | refine wpList_load_tree rfl _ rfl g (0*17) rfl t rt ?_)
      refine (hls _).mono ?_
      rintro e w2 ⟨rfl,G2⟩
      have V2:=S2.below G2
      have V4:=S4.below G2
      have B2:=bch B1 G2 (Nat.le_refl _)
      have c4:=V4.cell r hr16
      have f4:=V4.frozen r
      have X4:=V4.set r 1
      have X2:=V2.setFar (q:=g4) (by have:=hq.out;omega) r (.int .i64 1)
      have B3:=B2.setCell (p:=⟨g4,r,none⟩) (by have:=hq.out;show _<=g4;omega) (.int .i64 1)
      clear S2 S4 B1 G2 V2 V4 B2
      go_wp2_with (first | refine wpList_load_row rfl 127 _ rfl g4 rfl 127 (arr (upd (fun _=>0) r 1)) (0,0) _ X4.2 Tryz.underlying127 rfl hi1 ?_ | refine wpList_store_row rfl 127 _ _ rfl g2 (arr (upd (fun _=>0) r 1)) rfl rfl 127 _ X2.2 hi1 (by rw [arr_size,arr_size]) (arr_one _) ?_)
      have U2:=X2.setRow (upd (fun _=>0) r 1)
      exact bodyPost_ret (v:=.tuple #[.agg (arr (upd (fun _=>0) r 1)),.int .i64 0]) (results_row2 Tryz.results166 _ _ g2 127 _ (0,0) _ rfl U2.2 Tryz.underlying127 rfl hi1 _ rfl) rfl ⟨rfl,below_setRow B3 (Nat.le_of_lt hq.out.1) _⟩
    · have h8:=Hr.out.symm.trans (q2 (by rw [hcs];simp))
      simp only [Prod.mk.injEq] at h8
      obtain ⟨h8,rfl⟩:=h8
      have HBo:Hid (Cd.boR 16 ((Cd.in0 c 16).map (Cd.tof c fun i=>i)) (fun _=>0)=r1):=h8.symm
      have hlen2:2<=((Cd.in0 c 16).map (Cd.tof c fun i=>i)).length:=by rw [List.length_map,hcs];simp
      have hlen16:=HF.out.len
      clear hcs q0 q1 q2 hl1 h8
      generalize (Cd.in0 c 16).map (Cd.tof c fun i=>i)=l0 at *
      obtain ⟨ad,cap,hv⟩:=own_form ho
      subst hv
      have e0:((l0.length:Int) == 0)=false:=by rw [beq_eq_false_iff_ne];omega
      have e1:((l0.length:Int) == 1)=false:=by rw [beq_eq_false_iff_ne];omega
      go_wp2_with fail
      clear e0 e1
      have Hlen16:Hid (l0.length<=16):=hlen16
      go_loopg [5] 16 (fun n v wr=>∃ (l:List Tr) (L:Nat->Int),wr.ownsRow (g4+1) 205 17 v l.length (flat l)/\RowAt wr g2 (fun _=>0)/\RowAt wr g4 L/\Below w.heap.size w wr/\Hid (Cd.Fine l L/\l.length<=n/\Cd.boR n l L=r1))
      case atStart=>exact ⟨l0,fun _=>0,ho,S2,S4,B1,HF.out,Hlen16.out,HBo.out⟩
      case round =>
       clear ho S2 S4 B1 HF HBo Hlen16 hlen2 hlen16
       obtain ⟨l,L,ho,S2,S4,B1,HH⟩:=hrel
       by_cases hl:l.length<=1
       · have hL:L=r1:=by
          have:=HH.out.2.2
          cases gk with
          | zero=>rwa [Cd.boR] at this
          | succ n=>rwa [Cd.boR,if_pos hl] at this
         subst hL
         obtain ⟨ad,cap,hv⟩:=own_form ho
         subst hv
         have d1:decide ((1:Int)<(l.length:Int))=false:=by simp;omega
         have d1':decide (1<l.length)=false:=by simp;omega
         have hi1:=arr_infoc L
         clear hl HH
         go_wp2_with (first | refine wpList_load_row rfl 127 _ rfl g4 rfl 127 (arr L) (0,0) _ S4.2 Tryz.underlying127 rfl hi1 ?_ | refine wpList_store_row rfl 127 _ _ rfl g2 (arr L) rfl rfl 127 _ S2.2 hi1 (by rw [arr_size,arr_size]) (arr_one _) ?_)
         have U2:=S2.setRow L
         exact bodyPost_ret (v:=.tuple #[.agg (arr L),.int .i64 0]) (results_row2 Tryz.results166 _ _ g2 127 _ (0,0) _ rfl U2.2 Tryz.underlying127 rfl hi1 _ rfl) rfl ⟨rfl,below_setRow B1 (Nat.le_of_lt hq.out.1) _⟩
       · obtain ⟨f1,f2,f3,f4,f5,F6⟩:=HH.out.1.two (by omega)
         have hl16:=HH.out.1.len
         obtain ⟨n,hn⟩:∃ n,gk=n+1:=⟨gk - 1,by have:=HH.out.2.1;omega⟩
         subst hn
         have HBo:Hid (Cd.boR n (Cd.oth (Cd.oth l)++[Cd.mrg (Cd.fst l) (Cd.fst (Cd.oth l))]) (Cd.incr (Cd.mrg (Cd.fst l) (Cd.fst (Cd.oth l))) L)=r1):=by
          have:=HH.out.2.2
          rwa [Cd.boR,if_neg hl] at this
         have HF6:Hid (Cd.Fine (Cd.oth (Cd.oth l)++[Cd.mrg (Cd.fst l) (Cd.fst (Cd.oth l))]) (Cd.incr (Cd.mrg (Cd.fst l) (Cd.fst (Cd.oth l))) L)):=F6
         have HLn:Hid ((Cd.oth (Cd.oth l)++[Cd.mrg (Cd.fst l) (Cd.fst (Cd.oth l))]).length<=n):=by
          have:=HH.out.2.1
          show _<=_
          rw [List.length_append,List.length_singleton]
          omega
         have HLow:Hid (∀ i,0<=L i/\L i<=16):=fun i=>by have:=HH.out.1.low i;omega
         obtain ⟨g,cap,hv,hg,hgl,hrg⟩:=own_trees ho (by intro e;rw [e] at hl;simp at hl)
         subst hv
         have d1:decide ((1:Int)<(l.length:Int))=true:=by simp;omega
         have d1':decide (1<l.length)=true:=by simp;omega
         have t1:Calls Tryz.prog 186 #[.slice (some ⟨g,0,none⟩) l.length cap] wr fun e w'=>∃ v,e=.returned (.tuple #[.agg (trc (Cd.fst l)),v])/\Below wr.heap.size wr w'/\w'.ownsRow wr.heap.size 205 17 v (Cd.oth l).length (flat (Cd.oth l)):=takeLeast_any l g cap wr (by omega) hl16 hgl hrg
         have t2:∀ g cap w,g<w.heap.size->w.rangeAt g 0 (flat (Cd.oth l))->Calls Tryz.prog 186 #[.slice (some ⟨g,0,none⟩) (Cd.oth l).length cap] w fun e w'=>∃ v,e=.returned (.tuple #[.agg (trc (Cd.fst (Cd.oth l))),v])/\Below w.heap.size w w'/\w'.ownsRow w.heap.size 205 17 v (Cd.oth (Cd.oth l)).length (flat (Cd.oth (Cd.oth l))):=fun g cap w h1 h2=>takeLeast_any (Cd.oth l) g cap w (by omega) (by omega) h1 h2
         have hne1:Hid (Cd.oth l ≠ []):=by intro e;rw [e] at f4;simp at f4;omega
         have Hq4:Hid ((Cd.oth (Cd.oth l)).length<=16):=by show _<=_;omega
         generalize Cd.oth (Cd.oth l)=l2 at *
         generalize Cd.fst (Cd.oth l)=tb at *
         generalize Cd.oth l=l1 at *
         generalize Cd.fst l=ta at *
         clear HH F6 hl f4 f5 ho hrg hg
         go_wp2_with fail
         refine t1.mono ?_
         rintro e w2 ⟨v1,rfl,G2,O2⟩
         have V2:=S2.below G2
         have V4:=S4.below G2
         have B2:=bch B1 G2 (Nat.le_refl _)
         obtain ⟨g1,cap1,hv,hg1,hg1l,hrg1⟩:=own_trees O2 hne1.out
         subst hv
         have hia:=trc_infoc ta
         have X2:=V2.alloc (.cells (trc ta) 205)
         have X4:=V4.alloc (.cells (trc ta) 205)
         have A1:=TrAt.new w2 ta
         have B3:Below w.heap.size w (w2.alloc (.cells (trc ta) 205)):=B2.alloc B2.size _
         have hrg2:=range_below hrg1 ((Below.refl w2.heap.size w2).alloc (Nat.le_refl _) (.cells (trc ta) 205)) hg1l
         have hw2s:w2.heap.size+1=(w2.alloc (.cells (trc ta) 205)).heap.size:=by simp
         have HS2:Hid (g4<w2.heap.size/\w2.heap.size<(w2.alloc (.cells (trc ta) 205)).heap.size/\g1<(w2.alloc (.cells (trc ta) 205)).heap.size):=by have:=V4.1;show _/\_/\_;omega
         clear t1 S2 S4 B1 G2 V2 V4 B2 O2 hrg1 hg1 hg1l hgl hw2s
         go_wp2_with (refine wpList_store_row rfl 205 _ _ rfl w2.heap.size (trc ta) rfl rfl 205 _ (heap_alloc_last w2 _) hia rfl (trc_one _) ?_;rw [World.setRow_alloc_new])
         generalize w2.alloc (.cells (trc ta) 205)=wa at *
         generalize w2.heap.size=ga at *
         refine (t2 _ _ _ HS2.out.2.2 hrg2).mono ?_
         rintro e w3 ⟨v2,rfl,G3,O3⟩
         have Y2:=X2.below G3
         have Y4:=X4.below G3
         have A2:=A1.below G3
         have B4:=bch B3 G3 (Nat.le_refl _)
         have HS3:Hid (g4<ga/\ga<w3.heap.size/\(∀ q,v2.ownBlock=some q->ga<q/\q<w3.heap.size)):=by
          refine ⟨HS2.out.1,A2.1,fun q e=>?_⟩
          have h1:=O3.lt q e
          have h2:=HS2.out.2.1
          exact ⟨by omega,h1.2⟩
         have hs1:(w3.alloc (.cells (trc tb) 205)).heap.size=w3.heap.size+1:=by simp
         have hib:=trc_infoc tb
         have hit:=trc_infoc ⟨fun _=>false,ta.w+tb.w⟩
         have ca:=(A2.alloc (.cells (trc tb) 205)).cellw
         have cb:=(TrAt.new w3 tb).cellw
         have Z2:=(Y2.alloc (.cells (trc tb) 205)).alloc (.cells (trc ⟨fun _=>false,ta.w+tb.w⟩) 205)
         have Z4:=(Y4.alloc (.cells (trc tb) 205)).alloc (.cells (trc ⟨fun _=>false,ta.w+tb.w⟩) 205)
         have ZA:=(A2.alloc (.cells (trc tb) 205)).alloc (.cells (trc ⟨fun _=>false,ta.w+tb.w⟩) 205)
         have ZB:=(TrAt.new w3 tb).alloc (.cells (trc ⟨fun _=>false,ta.w+tb.w⟩) 205)
         have ZT:=TrAt.newN (w:=(w3.alloc (.cells (trc tb) 205))) hs1 ⟨fun _=>false,ta.w+tb.w⟩
         have ZO:=own_mono (base:=g4+1) ((O3.alloc (.cells (trc tb) 205)).alloc (.cells (trc ⟨fun _=>false,ta.w+tb.w⟩) 205)) (by have:=HS2.out;omega)
         have B5:Below w.heap.size w ((w3.alloc (.cells (trc tb) 205)).alloc (.cells (trc ⟨fun _=>false,ta.w+tb.w⟩) 205)):=(B4.alloc B4.size _).alloc (by have:=B4.size;simp;omega) _
         have Hs1:Hid ((w3.alloc (.cells (trc tb) 205)).heap.size=w3.heap.size+1):=hs1
         clear hs1 X2 X4 A1 B3 t2 hrg2 G3 O3 Y2 Y4 A2 B4
         go_wp2_with (first | (refine wpList_store_row rfl 205 _ _ rfl w3.heap.size (trc tb) rfl rfl 205 _ (heap_alloc_last w3 _) hib rfl (trc_one _) ?_;rw [World.setRow_alloc_new]) | refine wpList_build_w rfl _ rfl (ta.w+tb.w) rfl ?_ | (refine wpList_store_row rfl 205 _ _ rfl (w3.heap.size+1) (trc ⟨fun _=>false,ta.w+tb.w⟩) rfl rfl 205 _ (heap_new Hs1.out _) hit rfl (trc_one _) ?_;rw [setRow_new Hs1.out]))
         generalize ((w3.alloc (.cells (trc tb) 205)).alloc (.cells (trc ⟨fun _=>false,ta.w+tb.w⟩) 205))=wc at *
         have HG:Hid (g4<ga/\ga<w3.heap.size/\w3.heap.size<w3.heap.size+1/\(∀ q,v2.ownBlock=some q->ga<q/\q<w3.heap.size)):=⟨HS3.out.1,HS3.out.2.1,by omega,HS3.out.2.2⟩
         generalize w3.heap.size+1=gt at *
         generalize w3.heap.size=gb at *
         clear ca cb HS3 HS2 hne1 Hs1 hib hit hia d1 d1'
         have ZT0:=ZT.congr (t:=⟨fun j=>decide (j<0) && (ta.h j || tb.h j),ta.w+tb.w⟩) (fun j _=>by simp) rfl
         have Z40:=Z4.congr (f':=fun j=>if j<0 then Cd.incr (Cd.mrg ta tb) L j else L j) (fun j _=>by simp)
         go_loopw [12] (fun i wr=>∃ k:Nat,k<=16/\i=.int .i64 k/\TrAt wr ga ta/\TrAt wr gb tb/\TrAt wr gt ⟨fun j=>decide (j<k) && (ta.h j || tb.h j),ta.w+tb.w⟩/\RowAt wr g4 (fun j=>if j<k then Cd.incr (Cd.mrg ta tb) L j else L j)/\RowAt wr g2 (fun _=>0)/\wr.ownsRow (g4+1) 205 17 v2 l2.length (flat l2)/\Below w.heap.size w wr) (fun i _=>16 - (intOf i).toNat)
         case atStart=>exact ⟨0,by omega,rfl,ZA,ZB,ZT0,Z40,Z2,ZO,B5⟩
         case round =>
          clear ZA ZB ZT ZT0 Z4 Z40 Z2 ZO B5
          obtain ⟨k,hk,rfl,TA,TB,TT,S4,S2,hO,Bl⟩:=hrel
          by_cases hlt:k<16
          · have hk1:decide ((k:Int)<16)=true:=by simp;omega
            have hk2:decide (k<16)=true:=by simp;omega
            have hk3:(k:Int)<16:=by omega
            have ca:=TA.cellh k hlt
            have cb:=TB.cellh k hlt
            have ct:=TT.cellh k hlt
            have ft:=TT.frozen k
            cases ha:ta.h k with
            | true =>
             have hm:(ta.h k || tb.h k)=true:=by rw [ha];rfl
             rw [ha] at ca
             clear ha
             have cg:(wr.setCell ⟨gt,k,none⟩ (.bool true)).cell? ⟨g4,k,none⟩=some (.int .i64 (L k)):=by rw [(S4.setFar (q:=gt) (by have:=HG.out;omega) k (.bool true)).cell k hlt];simp
             have fg:=(S4.setFar (q:=gt) (by have:=HG.out;omega) k (.bool true)).frozen k
             have HLk:=HLow.out k
             have hL0:0<=L k:=HLk.1
             have hL1:L k<=16:=HLk.2
             have P2:=(S2.setFar (q:=gt) (by have:=HG.out;have:=hq.out;omega) k (.bool true)).setFar (q:=g4) (by have:=hq.out;omega) k (.int .i64 (L k+1))
             have P4:=((S4.setFar (q:=gt) (by have:=HG.out;omega) k (.bool true)).set k (L k+1)).congr (f':=fun j=>if j<k+1 then Cd.incr (Cd.mrg ta tb) L j else L j) (fun j _=>step_inc hm)
             have PA:=(TA.setFar (q:=gt) (by have:=HG.out;omega) k (.bool true)).setFar (q:=g4) (by have:=HG.out;omega) k (.int .i64 (L k+1))
             have PB:=(TB.setFar (q:=gt) (by have:=HG.out;omega) k (.bool true)).setFar (q:=g4) (by have:=HG.out;omega) k (.int .i64 (L k+1))
             have PT:=((TT.set k hlt true).setFar (q:=g4) (by have:=HG.out;omega) k (.int .i64 (L k+1))).congr (t:=⟨fun j=>decide (j<k+1) && (ta.h j || tb.h j),ta.w+tb.w⟩) (fun j _=>step_has hm.symm) rfl
             have PO:=own_setFar (k:=k) (x:=.int .i64 (L k+1)) (own_setFar (g:=gt) (k:=k) (x:=.bool true) hO (fun e=>by have:=HG.out.2.2.2 _ e;have:=HG.out;omega)) (g:=g4) (fun e=>by have:=HG.out.2.2.2 _ e;have:=HG.out;omega)
             have PB1:=(Bl.setCell (p:=⟨gt,k,none⟩) (by have:=HG.out;have:=hq.out;show _<=gt;omega) (.bool true)).setCell (p:=⟨g4,k,none⟩) (by have:=hq.out;show _<=g4;omega) (.int .i64 (L k+1))
             clear TA TB TT S2 S4 hO Bl hm
             generalize L k=Lk at *
             go_wp2_with fail
             go_roundw
             case rel=>exact ⟨k+1,by omega,by go_num,PA,PB,PT,P4,P2,PO,PB1⟩
             case measure=>simp [intOf];omega
            | false =>
             cases hb:tb.h k with
             | true =>
              have hm:(ta.h k || tb.h k)=true:=by rw [hb];simp
              rw [ha] at ca
              rw [hb] at cb
              clear ha hb
              have cg:(wr.setCell ⟨gt,k,none⟩ (.bool true)).cell? ⟨g4,k,none⟩=some (.int .i64 (L k)):=by rw [(S4.setFar (q:=gt) (by have:=HG.out;omega) k (.bool true)).cell k hlt];simp
              have fg:=(S4.setFar (q:=gt) (by have:=HG.out;omega) k (.bool true)).frozen k
              have HLk:=HLow.out k
              have hL0:0<=L k:=HLk.1
              have hL1:L k<=16:=HLk.2
              have P2:=(S2.setFar (q:=gt) (by have:=HG.out;have:=hq.out;omega) k (.bool true)).setFar (q:=g4) (by have:=hq.out;omega) k (.int .i64 (L k+1))
              have P4:=((S4.setFar (q:=gt) (by have:=HG.out;omega) k (.bool true)).set k (L k+1)).congr (f':=fun j=>if j<k+1 then Cd.incr (Cd.mrg ta tb) L j else L j) (fun j _=>step_inc hm)
              have PA:=(TA.setFar (q:=gt) (by have:=HG.out;omega) k (.bool true)).setFar (q:=g4) (by have:=HG.out;omega) k (.int .i64 (L k+1))
              have PB:=(TB.setFar (q:=gt) (by have:=HG.out;omega) k (.bool true)).setFar (q:=g4) (by have:=HG.out;omega) k (.int .i64 (L k+1))
              have PT:=((TT.set k hlt true).setFar (q:=g4) (by have:=HG.out;omega) k (.int .i64 (L k+1))).congr (t:=⟨fun j=>decide (j<k+1) && (ta.h j || tb.h j),ta.w+tb.w⟩) (fun j _=>step_has hm.symm) rfl
              have PO:=own_setFar (k:=k) (x:=.int .i64 (L k+1)) (own_setFar (g:=gt) (k:=k) (x:=.bool true) hO (fun e=>by have:=HG.out.2.2.2 _ e;have:=HG.out;omega)) (g:=g4) (fun e=>by have:=HG.out.2.2.2 _ e;have:=HG.out;omega)
              have PB1:=(Bl.setCell (p:=⟨gt,k,none⟩) (by have:=HG.out;have:=hq.out;show _<=gt;omega) (.bool true)).setCell (p:=⟨g4,k,none⟩) (by have:=hq.out;show _<=g4;omega) (.int .i64 (L k+1))
              clear TA TB TT S2 S4 hO Bl hm
              generalize L k=Lk at *
              go_wp2_with fail
              go_roundw
              case rel=>exact ⟨k+1,by omega,by go_num,PA,PB,PT,P4,P2,PO,PB1⟩
              case measure=>simp [intOf];omega
             | false =>
              have hm:(ta.h k || tb.h k)=false:=by rw [ha,hb];rfl
              rw [ha] at ca
              rw [hb] at cb
              have P2:=S2.setFar (q:=gt) (by have:=HG.out;have:=hq.out;omega) k (.bool false)
              have P4:=(S4.setFar (q:=gt) (by have:=HG.out;omega) k (.bool false)).congr (f':=fun j=>if j<k+1 then Cd.incr (Cd.mrg ta tb) L j else L j) (fun j _=>step_no hm)
              have PA:=TA.setFar (q:=gt) (by have:=HG.out;omega) k (.bool false)
              have PB:=TB.setFar (q:=gt) (by have:=HG.out;omega) k (.bool false)
              have PT:=(TT.set k hlt false).congr (t:=⟨fun j=>decide (j<k+1) && (ta.h j || tb.h j),ta.w+tb.w⟩) (fun j _=>step_has hm.symm) rfl
              have PO:=own_setFar (k:=k) (x:=.bool false) hO (g:=gt) (fun e=>by have:=HG.out.2.2.2 _ e;have:=HG.out;omega)
              have PB1:=Bl.setCell (p:=⟨gt,k,none⟩) (by have:=HG.out;have:=hq.out;show _<=gt;omega) (.bool false)
              clear TA TB TT S2 S4 hO Bl hm ha hb
              go_wp2_with fail
              go_roundw
              case rel=>exact ⟨k+1,by omega,by go_num,PA,PB,PT,P4,P2,PO,PB1⟩
              case measure=>simp [intOf];omega
          · obtain rfl:k=16:=by omega
            have TM:=TT.congr (t:=Cd.mrg ta tb) (fun j hj=>by simp [Cd.mrg,hj]) rfl
            have SM:=S4.congr (f':=Cd.incr (Cd.mrg ta tb) L) (fun j hj=>by rw [if_pos hj])
            have him:=trc_infoc (Cd.mrg ta tb)
            have hg4:g4<wr.heap.size:=S4.1
            have hl2:=Hq4.out
            generalize Cd.incr (Cd.mrg ta tb) L=L' at *
            generalize Cd.mrg ta tb=tm at *
            clear TA TB TT S4
            go_wp2_with (first | refine wpList_load_row rfl 205 _ rfl gt rfl 205 (trc tm) (0,0) _ TM.2 Tryz.underlying205 rfl him ?_ | refine wpList_build_tree rfl _ rfl tm rfl ?_ | (at_builtin;go_must (refine wpList_append_tree rfl _ _ rfl (g4+1) _ l2 rfl hO tm rfl (by omega) (by omega) ?_;intro v' w6 hown' hgrow)))
            have hne:∀ q,q<=g4->some q ≠ Value.ownBlock v2:=fun q hq9 e=>by have:=(hO.lt q e.symm).1;omega
            have U2:=S2.block (block_grown S2.1 (hne _ (Nat.le_of_lt hq.out.2)) hgrow)
            have U4:=SM.block (block_grown hg4 (hne _ (Nat.le_refl _)) hgrow)
            have B6:Below w.heap.size w w6:=(Bl.alloc Bl.size _).grown hgrow (by have:=Bl.size;simp;omega) (fun j hj=>by have:=(hO.lt j hj).1;have:=hq.out;omega)
            go_roundg n
            case measure=>omega
            case rel=>exact ⟨l2++[tm],L',hown',U2,U4,B6,HF6.out,HLn.out,HBo.out⟩
theorem buildOf_any (c:Nat->Int) (w:World) :
 Calls Tryz.prog 166 #[.agg (arr c)] w fun e w'=>e=.returned (.tuple #[.agg (arr (Cd.bld c).1),.int .i64 (Cd.bld c).2])/\Below w.heap.size w w':=by
 by_cases h:Cd.InR c 2048 16
 · exact buildOf_ok c w h
 · have e:Cd.bld c=(fun _=>0,3):=by rw [Cd.bld,if_pos h]
   rw [e]
   exact buildOf_range c w h
end Go.Proofs.YtbjbjbpgmojcbabGreat
namespace Go.Proofs.YtbjbjbpgmojcbabGreat
open Go.RowKit
set_option linter.unusedVariables false
theorem str_more (l:List UInt8) (x:Int):(⟨(2 :: l).toArray⟩:ByteArray)++⟨#[UInt8.ofNat x.toNat]⟩=⟨(2 :: (l++[UInt8.ofNat x.toNat])).toArray⟩:=by
 rw [show (⟨#[UInt8.ofNat x.toNat]⟩:ByteArray)=⟨([UInt8.ofNat x.toNat]).toArray⟩ from rfl,Nm.ba_app]
 rfl
theorem third_is (L:Nat->Int) (n:ByteArray) (w:ByteArray):(⟨(2 :: Bk.jnK L 8).toArray⟩:ByteArray)++n++w=(⟨#[2]⟩:ByteArray)++((⟨(Bk.jn L).toArray⟩:ByteArray)++n++w):=by
 apply Nm.ba_ext
 simp [Bk.jn]
theorem third_any (s:ByteArray) (w:World) (hs:s.size<=1024) :
 Calls Tryz.prog 135 #[.string s] w fun e w'=>e=.returned (.string ((⟨#[2]⟩:ByteArray)++Bk.enc s))/\Below w.heap.size w w':=by
 have c1:=fun w=>refHalves_any s w hs
 have c2:=fun w=>buildOf_any (Bk.hv s) w
 have c3:=fun w=>numBytes_any s.size (s.size:Int) w (by omega) (by omega) (by omega)
 rw [Int.toNat_natCast] at c3
 have c4:=fun w=>writeCode_any (Cd.bld (Bk.hv s)).1 s w (by omega)
 have HE:Hid ((⟨(2 :: Bk.jnK (Cd.bld (Bk.hv s)).1 8).toArray⟩:ByteArray)++⟨(Nm.nb s.size).toArray⟩++(Cd.wrt (Cd.bld (Bk.hv s)).1 s).1=(⟨#[2]⟩:ByteArray)++Bk.enc s):=third_is _ _ _
 have z2:(⟨(Nm.nb s.size).toArray⟩:ByteArray).size<=5:=by
  have:=Nm.nb_len5 s.size (by omega)
  show (Nm.nb s.size).toArray.size<=_
  simpa using this
 have z3:=wrt_size (Cd.bld (Bk.hv s)).1 s
 have HR:Hid (Cd.InR (Cd.bld (Bk.hv s)).1 15 16):=Bk.bld_in (Bk.hv_in s hs)
 have hiL:=arr_infoc (Cd.bld (Bk.hv s)).1
 have hb0:(s.size:Int)<=1024:=by omega
 generalize (⟨#[2]⟩:ByteArray)++Bk.enc s=R at *
 generalize (Cd.wrt (Cd.bld (Bk.hv s)).1 s).1=W at *
 generalize (Cd.wrt (Cd.bld (Bk.hv s)).1 s).2=We at *
 generalize (⟨(Nm.nb s.size).toArray⟩:ByteArray)=N at *
 generalize (Cd.bld (Bk.hv s)).1=f at *
 generalize (Cd.bld (Bk.hv s)).2=E at *
 generalize Bk.hv s=C at *
 go_enter Tryz.func135,Tryz.ntmps135
 go_wp2_with fail
 refine (c1 _).mono ?_
 rintro e w1 ⟨rfl,G1⟩
 go_wp2_with fail
 refine (c2 _).mono ?_
 rintro e w2 ⟨rfl,G2⟩
 have B2:=bch G1 G2 (Nat.le_refl _)
 have L3:=RowAt.new w2 f
 have B3:Below w.heap.size w (w2.alloc (.cells (arr f) 127)):=B2.alloc B2.size _
 have hgl:w.heap.size<=w2.heap.size:=B2.size
 clear G1 G2 B2 c1 c2
 go_wp2_with (refine wpList_store_row rfl 127 _ _ rfl w2.heap.size (arr f) rfl rfl 127 _ (heap_alloc_last w2 _) hiL rfl (arr_one _) ?_;rw [World.setRow_alloc_new])
 generalize w2.alloc (.cells (arr f) 127)=wa at *
 generalize w2.heap.size=gl at *
 go_loopw [5,6] (fun v i wr=>∃ k:Nat,k<=8/\i=.int .i64 k/\v=.string ⟨(2 :: Bk.jnK f k).toArray⟩/\RowAt wr gl f/\Below w.heap.size w wr) (fun _ i _=>8 - (intOf i).toNat)
 case atStart=>exact ⟨0,by omega,rfl,rfl,L3,B3⟩
 case round =>
  clear L3 B3
  obtain ⟨k,hk,rfl,rfl,R1,B1⟩:=hrel
  by_cases hlt:k<8
  · have hk1:decide ((k:Int)<8)=true:=by simp;omega
    have hk2:decide (k<8)=true:=by simp;omega
    obtain ⟨K2,hK2e⟩:∃ K2,2*k=K2:=⟨_,rfl⟩
    obtain ⟨K3,hK3e⟩:∃ K3,2*k+1=K3:=⟨_,rfl⟩
    have hK2:K2<16:=by omega
    have hK3:K3<16:=by omega
    have m2:2*(k:Int)=(K2:Int):=by omega
    have m3:(K2:Int)+1=(K3:Int):=by omega
    have hK2i:(K2:Int)<16:=by omega
    have hK3i:(K3:Int)<16:=by omega
    have HN:=Bk.jnK_next f k
    rw [hK3e,hK2e] at HN
    have c9:=R1.cell K2 hK2
    have c8:=R1.cell K3 hK3
    have hx:=HR.out K2 hK2
    have hy:=HR.out K3 hK3
    have HNN:Hid (Bk.jnK f (k+1)=Bk.jnK f k++[UInt8.ofNat (16*f K2+f K3).toNat]):=by rw [Int.mul_comm];exact HN
    have hlen:(⟨(2 :: Bk.jnK f k).toArray⟩:ByteArray).size<=100:=by
     show (2 :: Bk.jnK f k).toArray.size<=_
     simp [Bk.jnK_len]
     omega
    have HS:Hid (∀ x:Int,(⟨(2 :: Bk.jnK f k).toArray⟩:ByteArray)++⟨#[UInt8.ofNat x.toNat]⟩=⟨(2 :: (Bk.jnK f k++[UInt8.ofNat x.toNat])).toArray⟩):=str_more (Bk.jnK f k)
    clear HN hK2e hK3e
    generalize f K2=x at *
    generalize f K3=y at *
    generalize hJ:(⟨(2 :: Bk.jnK f k).toArray⟩:ByteArray)=J at *
    clear hJ
    obtain ⟨hx0,hx1⟩:=hx
    obtain ⟨hy0,hy1⟩:=hy
    have hcv:=conv_cell (16*x+y) (by omega) (by omega)
    have w1:IntKind.i64.wrap (16*x)=16*x:=IntWalk.i64_in _ ⟨by omega,by omega⟩
    have w2:IntKind.i64.wrap (16*x+y)=16*x+y:=IntWalk.i64_in _ ⟨by omega,by omega⟩
    have w3:IntKind.u8.wrap (16*x+y)=16*x+y:=IntWalk.u8_in _ ⟨by omega,by omega⟩
    have w4:IntKind.i64.wrap (K2:Int)=(K2:Int):=IntWalk.i64_in _ ⟨by omega,by omega⟩
    have w5:IntKind.i64.wrap (K3:Int)=(K3:Int):=IntWalk.i64_in _ ⟨by omega,by omega⟩
    have hgw:=R1.1
    have X1:RowAt (wr.drew.alloc (.cells #[.int .u8 (16*x+y)] 5)) gl f:=(show RowAt wr.drew gl f from R1).alloc _
    have X2:Below w.heap.size w (wr.drew.alloc (.cells #[.int .u8 (16*x+y)] 5)):=(show Below w.heap.size w wr.drew from B1.drew).alloc B1.size _
    clear R1 B1
    go_wp2_with fail
    go_region
    go_wp2_with fail
    go_roundw
    case rel=>exact ⟨k+1,by omega,by go_num,by rw [HNN.out,<-HS.out],X1,X2⟩
    case measure=>simp [intOf];omega
  · obtain rfl:k=8:=by omega
    have hk1:decide ((8:Int)<8)=false:=by decide
    have hlen:(⟨(2 :: Bk.jnK f 8).toArray⟩:ByteArray).size<=100:=by
     show (2 :: Bk.jnK f 8).toArray.size<=_
     simp [Bk.jnK_len]
    generalize (⟨(2 :: Bk.jnK f 8).toArray⟩:ByteArray)=J at *
    go_wp2_with (refine wpList_load_row rfl 127 _ rfl gl rfl 127 (arr f) (0,0) _ R1.2 Tryz.underlying127 rfl hiL ?_)
    refine (c4 _).mono ?_
    rintro e w4 ⟨rfl,G4⟩
    have B5:=bch B1 G4 (Nat.le_refl _)
    clear B1 G4 c4 R1
    go_wp2_with fail
    refine (c3 _).mono ?_
    rintro e w5 ⟨rfl,G5⟩
    have B6:=bch B5 G5 (Nat.le_refl _)
    clear B5 G5 c3
    go_wp2_with fail
    go_ret
    exact ⟨congrArg (fun s=>Ending.returned (Value.string s)) HE.out,B6⟩
end Go.Proofs.YtbjbjbpgmojcbabGreat
namespace Go.Proofs.YtbjbjbpgmojcbabGreat
open Go.RowKit
theorem ext_none (s:ByteArray) (a:Nat):s.extract a a=⟨#[]⟩:=by
 apply Nm.ba_ext
 rw [Tk.ext_data]
 simp
theorem ext_more (s:ByteArray) (f a:Nat) (h:f<=a):s.extract f a++s.extract a (a+1)=s.extract f (a+1):=by
 apply Nm.ba_ext
 rw [Nm.appd,Tk.ext_data,Tk.ext_data,Tk.ext_data,show a+1 - a=1 by omega,show a+1 - f=(a - f)+1 by omega,List.take_add,List.drop_drop,show f+(a - f)=a by omega]
theorem ext_len (s:ByteArray) (f a:Nat) (ha:a<=s.size):(s.extract f a).size=a - f:=by simp;omega
theorem fold_range {l:List UInt8} {a m p:Nat} {b:Nat × Nat}:((List.range (p+1)).reverse).foldl (Tk.stp l a m) b=((List.range p).reverse).foldl (Tk.stp l a m) (Tk.stp l a m b p):=by
 rw [List.range_succ]
 simp
theorem parseOf_ok (dict text:ByteArray) (w:World) (hd:dict.size<=256) (ht:text.size<=512) :
 Calls Tryz.prog 134 #[.string dict,.string text] w fun e w'=>Below w.heap.size w w'/\∃ ad cap,e=.returned (.slice ad (Tk.P (dict++text) dict.size dict.size).length cap)/\SlAt w' ad (Tk.P (dict++text) dict.size dict.size):=by
 have d1':(dict.size:Int)<=256:=by omega
 have d2':(text.size:Int)<=512:=by omega
 obtain ⟨i0,hi,hz0,hz1,hz2⟩:=info_parts info_tok
 go_enter Tryz.func134,Tryz.ntmps134
 go_wp2_with fail
 have hsz:(dict++text).size=dict.size+text.size:=Nm.apps _ _
 generalize hs0:dict++text=s at *
 have hs1:s.size<=768:=by omega
 have hs2:(s.size:Int)<=768:=by omega
 have hds:dict.size<=s.size:=by omega
 have HS0:Hid (dict++text=s):=hs0
 clear hsz hs0 d1' d2'
 generalize hd0:dict.size=d at *
 have HD0:Hid (dict.size=d):=hd0
 clear hd0
 go_loopw [6,7,8,9,10,11,12] (fun o x i _ _ _ _ wr=>∃ (a f:Nat) (X:ByteArray) (l:List Tk.T),x=.string X/\Hid (X=s.extract f a)/\i=.int .i64 (a:Nat)/\wr.ownsRow w.heap.size 165 3 o l.length (tcs l)/\f<=a/\a<=s.size/\l.length<=f/\Hid (l++Tk.P s a f=Tk.P s d d)/\Below w.heap.size w wr) (fun _ _ i _ _ _ _ _=>s.size - (intOf i).toNat)
 case atStart=>exact ⟨d,d,⟨#[]⟩,[],rfl,(ext_none s d).symm,rfl,World.ownsRow_nil _ _ _ _,Nat.le_refl _,hds,by simp,rfl,Below.refl _ _⟩
 case round =>
  obtain ⟨a,f,X,l,rfl,hX,rfl,hown,hfa,has,hlf,hP,G⟩:=hrel
  have HO:Hid (wr.ownsRow w.heap.size 165 3 u6 l.length (tcs l)):=hown
  clear hown
  have hXs:X.size=a - f:=by rw [hX.out];exact ext_len s f a has
  have hgs:=G.size
  by_cases hend:a<s.size
  · have d3:decide ((a:Int)<(s.size:Int))=true:=by simp;omega
    have d3':decide (a<s.size)=true:=by simp;omega
    go_wp2_with fail
    obtain ⟨wo,rfl⟩:∃ wo:World,wo=wr:=⟨_,rfl⟩
    obtain ⟨bb,hbb⟩:∃ bb,Tk.bst s.data.toList a=bb:=⟨_,rfl⟩
    have HB:Hid (Tk.bst s.data.toList a=bb):=hbb
    clear hbb
    have hl:s.data.toList.length=s.size:=by simp
    have HM:Hid (Tk.most s.data.toList a=min 64 (s.size - a)):=by show _=_;unfold Tk.most;rw [hl]
    clear hl
    go_loopw [9,10,11,12] (fun x y i _ wi=>∃ best far q:Nat,x=.int .i64 (best:Nat)/\y=.int .i64 (far:Nat)/\i=.int .i64 (q:Nat)/\1<=q/\q<=a+1/\far<=a/\best<=64/\Hid ((List.range (a+1 - q)).reverse.foldl (Tk.stp s.data.toList a (Tk.most s.data.toList a)) (far,best)=bb)/\Below wo.heap.size wo wi) (fun _ _ i _ _=>a+1 - (intOf i).toNat)
    case atStart=>exact ⟨0,0,1,rfl,rfl,rfl,by omega,by omega,by omega,by omega,HB.out,Below.refl _ _⟩
    case round =>
     obtain ⟨best,far,q,rfl,rfl,rfl,hq1,hq2,hfar,hbest,hfold,Gi⟩:=hrel
     by_cases hqa:q<=a
     · have d4:decide ((q:Int)<=(a:Int))=true:=by simp;omega
       have d4':decide (q<=a)=true:=by simp;omega
       have hstep:(List.range (a+1 - q)).reverse.foldl (Tk.stp s.data.toList a (Tk.most s.data.toList a)) (far,best)=(List.range (a+1 - (q+1))).reverse.foldl (Tk.stp s.data.toList a (Tk.most s.data.toList a)) (Tk.stp s.data.toList a (Tk.most s.data.toList a) (far,best) (a - q)):=by
        rw [show a+1 - q=(a - q)+1 by omega,fold_range,show a+1 - (q+1)=a - q by omega]
       have hcm:=fun w=>come_any s a q w (by omega) has hq1 hqa
       have hle:=Tk.alk_le s.data.toList (Tk.most s.data.toList a) (a - q) a
       have hm64:Tk.most s.data.toList a<=64:=by rw [HM.out];omega
       rw [<-HM.out] at hcm
       obtain ⟨k,hk⟩:∃ k,Tk.alk s.data.toList (a - q) a (Tk.most s.data.toList a)=k:=⟨_,rfl⟩
       rw [hk] at hcm hle
       by_cases hbig:best<k
       · have HF:Hid ((List.range (a+1 - (q+1))).reverse.foldl (Tk.stp s.data.toList a (Tk.most s.data.toList a)) (q,k)=bb):=by
          show _=_
          rw [<-hfold.out,hstep]
          unfold Tk.stp
          rw [hk,if_pos (by exact hbig),show a - (a - q)=q by omega]
         have d5:decide ((best:Int)<(k:Int))=true:=by simp;omega
         have d5':decide (best<k)=true:=by simp;omega
         have hk64:k<=64:=by omega
         clear hstep hfold hk hle hm64
         go_wp2_with (go_at_call 165;go_must (refine (hcm _).mono ?_;rintro e w1 ⟨rfl,hb1⟩))
         go_roundw
         case rel=>exact ⟨k,q,q+1,rfl,rfl,by go_num,by omega,by omega,by omega,hk64,HF,bch Gi hb1 (Nat.le_refl _)⟩
         case measure=>simp [intOf];omega
       · have HF:Hid ((List.range (a+1 - (q+1))).reverse.foldl (Tk.stp s.data.toList a (Tk.most s.data.toList a)) (far,best)=bb):=by
          show _=_
          rw [<-hfold.out,hstep]
          unfold Tk.stp
          rw [hk,if_neg (by exact hbig)]
         have d5:decide ((best:Int)<(k:Int))=false:=by simp;omega
         have d5':decide (best<k)=false:=by simp;omega
         clear hstep hfold hk hle hm64
         go_wp2_with (go_at_call 165;go_must (refine (hcm _).mono ?_;rintro e w1 ⟨rfl,hb1⟩))
         go_roundw
         case rel=>exact ⟨best,far,q+1,rfl,rfl,by go_num,by omega,by omega,hfar,hbest,HF,bch Gi hb1 (Nat.le_refl _)⟩
         case measure=>simp [intOf];omega
     · have d4:decide ((q:Int)<=(a:Int))=false:=by simp;omega
       have d4':decide (q<=a)=false:=by simp;omega
       have hbb:bb=(far,best):=by
        rw [<-hfold.out,show a+1 - q=0 by omega]
        rfl
       subst hbb
       have HOi:Hid (wr.ownsRow w.heap.size 165 3 u6 l.length (tcs l)):=own_below HO.out Gi
       have GG:=bch G Gi (Nat.le_refl _)
       have hgw:=GG.size
       clear hfold
       by_cases h3:best<3
       · have HN:Hid (l++Tk.P s (a+1) f=Tk.P s d d):=by
          show _=_
          rw [<-hP.out,Tk.P_lit hend (by rw [HB.out];exact h3)]
         have HXN:Hid (X++s.extract a (a+1)=s.extract f (a+1)):=by
          show _=_
          rw [hX.out]
          exact ext_more s f a hfa
         have d6:decide ((best:Int)<3)=true:=by simp;omega
         have d6':decide (best<3)=true:=by simp;omega
         have hsl:=slice_at s (a:Int) ((a:Int)+1) a (a+1) rfl (by omega) (by omega) (by omega)
         have hY:(s.extract a (a+1)).size=1:=by rw [ext_len s a (a+1) (by omega)];omega
         have hXb:X.size<=768:=by omega
         have hwr:IntKind.i64.wrap ((a:Int)+1)=(a:Int)+1:=IntWalk.i64_in _ ⟨by omega,by omega⟩
         generalize s.extract a (a+1)=Y at *
         have HXs:Hid (X.size=a - f):=hXs
         clear hX hXs hP HM HB
         go_wp2_with fail
         go_roundw
         case rel=>exact ⟨a+1,f,X++Y,l,rfl,HXN,by go_num,HOi.out,by omega,by omega,hlf,HN,GG⟩
         case measure=>simp [intOf];omega
       · have hbo:=Tk.bst_ok s.data.toList a
         rw [HB.out,HM.out] at hbo
         simp only at hbo
         have han:a+best<=s.size:=by omega
         have HN:Hid ((l++Tk.lay s f a)++[⟨⟨#[]⟩,(far:Nat),(best:Nat)⟩]++Tk.P s (a+best) (a+best)=Tk.P s d d):=by
          show _=_
          rw [<-hP.out,Tk.P_copy hend (by rw [HB.out];exact h3),HB.out]
          simp
         have d6:decide ((best:Int)<3)=false:=by simp;omega
         have d6':decide (best<3)=false:=by simp;omega
         have hwr:IntKind.i64.wrap ((a:Int)+(best:Int))=(a:Int)+(best:Int):=IntWalk.i64_in _ ⟨by omega,by omega⟩
         clear hbo hP HM HB
         by_cases hf:f<a
         · have hE:=empty_not (s:=X) (by omega)
           have hlay:Tk.lay s f a=[⟨X,0,0⟩]:=by
            unfold Tk.lay
            rw [if_pos hf,hX.out]
           rw [hlay] at HN
           have HXs:Hid (X.size=a - f):=hXs
           clear hX hXs hlay
           have tok:True:=trivial
           go_wp2_with (first | (at_builtin;have _t:=tok;go_must (refine wpList_append_own _ rfl _ _ 131 rfl w.heap.size 165 i0 (.agg #[.string ⟨#[]⟩,.int .i64 0,.int .i64 0]) 3 32 Tryz.underlying131 hi hz0 hz1 hz2 rfl (by decide) _ _ _ rfl (HOi.out.alloc _) ⟨wr.heap.size,0,none⟩ 1 1 [.string X,.int .i64 0,.int .i64 0] rfl rfl (news3 _ _ _ _ _) (one3 _ _ _ rfl rfl rfl) (ml_le (by omega)) (by omega) (by simp;omega) ?_;intro v4 w4 hown4 hgrow4 _;clear _t tok;have hgs4:=hgrow4.size)) | (at_builtin;go_must (refine wpList_append_own _ rfl _ _ 131 rfl w.heap.size 165 i0 (.agg #[.string ⟨#[]⟩,.int .i64 0,.int .i64 0]) 3 32 Tryz.underlying131 hi hz0 hz1 hz2 rfl (by decide) _ _ _ rfl (hown4.alloc _) ⟨w4.heap.size,0,none⟩ 1 1 [.string ⟨#[]⟩,.int .i64 (far:Nat),.int .i64 (best:Nat)] rfl rfl (news3 _ _ _ _ _) (one3 _ _ _ rfl rfl rfl) (ml_le (by omega)) (by omega) (by simp at hgs4 hgw |-;omega) ?_;intro v5 w5 hown5 hgrow5 _)))
           go_roundw
           case rel =>
            have t1:tcs (l++[⟨X,0,0⟩]++[⟨⟨#[]⟩,(far:Nat),(best:Nat)⟩])=tcs l++[.string X,.int .i64 0,.int .i64 0]++[.string ⟨#[]⟩,.int .i64 (far:Nat),.int .i64 (best:Nat)]:=by rw [tcs_append,tcs_append];rfl
            have B4:=(GG.alloc hgw _).grown hgrow4 (by simp;omega) (fun k hk=>(HOi.out.lt k hk).1)
            refine ⟨a+best,a+best,⟨#[]⟩,l++[⟨X,0,0⟩]++[⟨⟨#[]⟩,(far:Nat),(best:Nat)⟩],rfl,(ext_none s _).symm,by go_num,?_,Nat.le_refl _,by omega,by simp;omega,HN,(B4.alloc B4.size _).grown hgrow5 (by have:=B4.size;simp;omega) (fun k hk=>(hown4.lt k hk).1)⟩
            rw [t1,List.length_append,List.length_append]
            exact hown5
           case measure=>simp [intOf];omega
         · have hE:=empty_of (s:=X) (by omega)
           have hlay:Tk.lay s f a=[]:=by
            unfold Tk.lay
            rw [if_neg hf]
           rw [hlay,List.append_nil] at HN
           have HX0:Hid (X.size=0):=by show _=_;omega
           have HXs:Hid (X.size=a - f):=hXs
           clear hX hXs hlay
           go_wp2_with (first | (at_builtin;go_must (refine wpList_append_own _ rfl _ _ 131 rfl w.heap.size 165 i0 (.agg #[.string ⟨#[]⟩,.int .i64 0,.int .i64 0]) 3 32 Tryz.underlying131 hi hz0 hz1 hz2 rfl (by decide) _ _ _ rfl (HOi.out.alloc _) ⟨wr.heap.size,0,none⟩ 1 1 [.string ⟨#[]⟩,.int .i64 (far:Nat),.int .i64 (best:Nat)] rfl rfl (news3 _ _ _ _ _) (one3 _ _ _ rfl rfl rfl) (ml_le (by omega)) (by omega) (by simp at hgw |-;omega) ?_;intro v5 w5 hown5 hgrow5 _)))
           go_roundw
           case rel =>
            have t1:tcs (l++[⟨⟨#[]⟩,(far:Nat),(best:Nat)⟩])=tcs l++[.string ⟨#[]⟩,.int .i64 (far:Nat),.int .i64 (best:Nat)]:=by rw [tcs_append];rfl
            have hX0:X=⟨#[]⟩:=Nm.ba_ext (List.eq_nil_of_length_eq_zero (by simpa using HX0.out))
            refine ⟨a+best,a+best,X,l++[⟨⟨#[]⟩,(far:Nat),(best:Nat)⟩],rfl,by rw [hX0];exact (ext_none s _).symm,by go_num,?_,Nat.le_refl _,by omega,by simp;omega,HN,(GG.alloc hgw _).grown hgrow5 (by simp;omega) (fun k hk=>(HOi.out.lt k hk).1)⟩
            rw [t1,List.length_append]
            exact hown5
           case measure=>simp [intOf];omega
  · have d3:decide ((a:Int)<(s.size:Int))=false:=by simp;omega
    have d3':decide (a<s.size)=false:=by simp;omega
    have HE:Hid (l++Tk.lay s f a=Tk.P s d d):=by
     show _=_
     rw [<-hP.out,Tk.P_end (by omega)]
    have HOi:=HO
    clear hP
    by_cases hf:f<a
    · have hE:=empty_not (s:=X) (by omega)
      have hlay:Tk.lay s f a=[⟨X,0,0⟩]:=by
       unfold Tk.lay
       rw [if_pos hf,hX.out]
      rw [hlay] at HE
      have HXs:Hid (X.size=a - f):=hXs
      clear hX hXs hlay
      have tok:True:=trivial
      go_wp2_with (first | (at_builtin;have _t:=tok;go_must (refine wpList_append_own _ rfl _ _ 131 rfl w.heap.size 165 i0 (.agg #[.string ⟨#[]⟩,.int .i64 0,.int .i64 0]) 3 32 Tryz.underlying131 hi hz0 hz1 hz2 rfl (by decide) _ _ _ rfl (HOi.out.alloc _) ⟨wr.heap.size,0,none⟩ 1 1 [.string X,.int .i64 0,.int .i64 0] rfl rfl (news3 _ _ _ _ _) (one3 _ _ _ rfl rfl rfl) (ml_le (by omega)) (by omega) (by simp;omega) ?_;intro v4 w4 hown4 hgrow4 _;clear _t tok;have hgs4:=hgrow4.size)))
      go_ret
      have t1:tcs (l++[⟨X,0,0⟩])=tcs l++[.string X,.int .i64 0,.int .i64 0]:=by rw [tcs_append];rfl
      rw [<-t1] at hown4
      obtain ⟨ad,cap,hv,hsl⟩:=sl_of_row hown4
      refine ⟨(G.alloc hgs _).grown hgrow4 (by simp;omega) (fun k hk=>(HO.out.lt k hk).1),ad,cap,?_,?_⟩
      · rw [HS0.out,HD0.out,<-HE.out,<-hv]
        rfl
      · rw [HS0.out,HD0.out,<-HE.out]
        exact hsl
    · have hE:=empty_of (s:=X) (by omega)
      have hlay:Tk.lay s f a=[]:=by
       unfold Tk.lay
       rw [if_neg hf]
      rw [hlay,List.append_nil] at HE
      have HXs:Hid (X.size=a - f):=hXs
      clear hX hXs hlay
      go_wp2_with fail
      go_ret
      obtain ⟨ad,cap,hv,hsl⟩:=sl_of_row HO.out
      refine ⟨G,ad,cap,?_,?_⟩
      · rw [HS0.out,HD0.out,<-HE.out,<-hv]
        rfl
      · rw [HS0.out,HD0.out,<-HE.out]
        exact hsl
end Go.Proofs.YtbjbjbpgmojcbabGreat
