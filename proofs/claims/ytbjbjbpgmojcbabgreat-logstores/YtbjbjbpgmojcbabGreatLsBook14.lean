/- A part of the proof: what it leans on. -/
import Derived.Great.BuildSlice
import Derived.Test.YtbjbjbpgmojcbabGreatLsBook13
set_option maxRecDepth 4000
set_option maxHeartbeats 2000000
namespace Go.Proofs.YtbjbjbpgmojcbabGreat
open Go.RowKit
set_option linter.unusedVariables false
def ZaX (u:ByteArray × Int) (w:World) (e:Ending) (w':World):Prop:=∃ x,e=.returned (.tuple #[.string x,.bool (decide (u.2=0))])/\(u.2=0->x=u.1)/\(u.2 ≠ 0->u=(⟨#[]⟩,1))/\Below w.heap.size w w'
theorem ZbD {u:ByteArray × Int} (hu:u=(⟨#[]⟩,1)) {w:World} {x:ByteArray}:∀ e w',(e=.returned (.tuple #[.string x,.bool false])/\Below w.heap.size w w')->ZaX u w e w':=by
 subst hu;intro e w' h;exact ⟨x,h.1,fun h9=>absurd h9 (by decide),fun _=>rfl,h.2⟩
theorem ZfE {u:ByteArray × Int} {x:ByteArray} (hu:u=(x,0)) {w:World}:∀ e w',(e=.returned (.tuple #[.string x,.bool true])/\Below w.heap.size w w')->ZaX u w e w':=by
 subst hu;intro e w' h;exact ⟨x,h.1,fun _=>rfl,fun h9=>absurd rfl h9,h.2⟩
theorem ZdJ (dict b:ByteArray) (w:World) (hd:dict.size<=256) (hb:b.size<=140737488355328) :
 Calls Tryz.prog 62 #[.string dict,.string b] w fun e w'=>ZaX (Bk.unp dict b) w e w':=by
 by_cases h0:b.size=0
 ·have e:Bk.unp dict b=(⟨#[]⟩,1):=by rw [Bk.unp,if_neg (by omega),if_pos h0]
  obtain rfl:b=⟨#[]⟩:=by
   apply ByteArray.ext;exact Array.eq_empty_of_size_eq_zero h0
  exact (Zff dict w).mono (ZbD e)
 ·have h1:0<b.size:=by omega
  have hA:=ZpC h1;have hU:Bk.unp dict b=if Cd.at8 b 0=0 then Bk.whl (b.extract 1 b.size) else if Cd.at8 b 0=1 then Bk.ply dict (b.extract 1 b.size) else if Cd.at8 b 0=2 then (if (Bk.dec (b.extract 1 b.size)).2=0 then Bk.ply dict (Bk.dec (b.extract 1 b.size)).1 else (⟨#[]⟩,(Bk.dec (b.extract 1 b.size)).2)) else (⟨#[]⟩,1):=by rw [Bk.unp,if_neg (by omega),if_neg h0]
  have hs1:=Zn b 1 b.size
  obtain ⟨S,hS⟩:∃ S,b.extract 1 b.size=S:=⟨_,rfl⟩
  rw [hS] at hU hs1;by_cases k0:Cd.at8 b 0=0
  ·rw [if_pos k0] at hU;have c:=ZlX dict b S w hd hb h1 hS (by omega);by_cases hl:512<S.size
   ·rw [Bk.whl,if_pos hl] at hU;rw [decide_eq_false (by omega)] at c;exact c.mono (ZbD hU)
   ·rw [Bk.whl,if_neg hl] at hU;rw [decide_eq_true (by omega)] at c;exact c.mono (ZfE hU)
  ·rw [if_neg k0] at hU;by_cases k1:Cd.at8 b 0=1
   ·rw [if_pos k1] at hU
    cases hm:ZC dict S with
    | none =>
     rw [Bk.ply,hm] at hU;exact (ZhW dict b S w hd hb h1 hS (by omega) hm).mono (ZbD hU)
    | some m =>
     rw [Bk.ply,hm] at hU;exact (ZhX dict b S w hd hb h1 hS (by omega) m hm).mono (ZfE hU)
   ·rw [if_neg k1] at hU;by_cases k2:Cd.at8 b 0=2
    ·rw [if_pos k2] at hU;by_cases h8:S.size<8
     ·have e:Bk.dec S=(⟨#[]⟩,1):=by rw [Bk.dec,if_pos h8]
      rw [e,if_neg (by decide)] at hU;exact (Zio dict b S w hd hb h1 hS (by omega) h8).mono (ZbD hU)
     ·cases hn:Nm.Zl (S.extract 8 S.size).data.toList with
      | none =>
       rw [Bk.Zjm h8 hn,if_neg (by decide)] at hU;exact (ZiS dict b S w hd hb h1 hS (by omega) _ rfl h8 hn).mono (ZbD hU)
      | some nk =>
       obtain ⟨n,k⟩:=nk;rw [Bk.Zgs h8 hn] at hU;by_cases hE:(Cd.rd (Bk.pt (S.extract 0 8)) ((S.extract 8 S.size).extract k (S.extract 8 S.size).size) (n:Nat)).2=0
       ·rw [if_pos hE,if_pos rfl] at hU;have hz:=Ztn _ _ _ hE
        have e9:Cd.rd (Bk.pt (S.extract 0 8)) ((S.extract 8 S.size).extract k (S.extract 8 S.size).size) (n:Nat)=((Cd.rd (Bk.pt (S.extract 0 8)) ((S.extract 8 S.size).extract k (S.extract 8 S.size).size) (n:Nat)).1,0):=by
         rw [<-hE]
        cases hm:ZC dict (Cd.rd (Bk.pt (S.extract 0 8)) ((S.extract 8 S.size).extract k (S.extract 8 S.size).size) (n:Nat)).1 with
        | none =>
         rw [Bk.ply,hm] at hU;exact (Zhr dict b S w hd hb h1 hS (by omega) _ rfl h8 n k _ hn rfl _ e9 hz hm).mono (ZbD hU)
        | some m =>
         rw [Bk.ply,hm] at hU;exact (ZhQ dict b S w hd hb h1 hS (by omega) _ rfl h8 n k _ hn rfl _ e9 hz m hm).mono (ZfE hU)
       ·rw [if_neg hE,if_neg (by decide)] at hU;exact (ZiI dict b S w hd hb h1 hS (by omega) _ rfl h8 n k _ hn rfl hE).mono (ZbD hU)
    ·rw [if_neg k2] at hU;exact (ZkV dict b S w hd hb h1 hS (by omega)).mono (ZbD hU)
theorem Zly (ad af:Option Addr) (cd cf:Nat) (a:Ar.A) (i:Nat) (w:World) (h:ArV w ad af a) (hs:SaneA a) (hc:Ar.chk a=0) (hi:i<a.files.length) :
 Calls Tryz.prog 65 #[av ad cd af cf a,.int .i64 (i:Nat)] w fun e w'=>e=.returned (.string (Ar.tx a.dicts (Ar.fa a.files i)))/\Below w.heap.size w w':=by
 have hb:=fun o=>(bR w.heap.size w).alloc (nl _) o
 obtain ⟨m1,m2,m3⟩:=Ar.Zw.1 (Ar.Zd.1 hc).1;have hok:=Ar.ZbP (Ar.Zfs (Ar.Zd.1 hc).2 hi);have hh:Ar.has a.dicts (Ar.fa a.files i).dict=true:=(Bool.and_eq_true _ _ ▸ hok.2.2:_/\_).1;have hup:(Ar.up a.dicts (Ar.fa a.files i)).2=0:=Ar.Zrj hok.2.2;have C1:Hid (∀ w',Below w.heap.size w w'->Calls Tryz.prog 63 #[av ad cd af cf a,.int .i64 (Ar.fa a.files i).dict] w' fun e w2=>e=.returned (.string (Ar.dct a.dicts (Ar.fa a.files i).dict))/\Below w'.heap.size w' w2):=fun w' h9=>Zdk ad af cd cf a _ w' (h.ds.below h9) hs.nd hh
 have C2:Hid (∀ w',Calls Tryz.prog 62 #[.string (Ar.dct a.dicts (Ar.fa a.files i).dict),.string (Ar.fa a.files i).blk] w' fun e w2=>ZaX (Ar.up a.dicts (Ar.fa a.files i)) w' e w2):=fun w'=>ZdJ _ _ w' (Ar.ZaM (Ar.Zd.1 hc).1 _) (hs.bk i)
 obtain ⟨b,off,rfl,hbl,hcell⟩:=h.fs.at hi;obtain ⟨c0,c1,c2,c3,c4⟩:=hcell;unfold Ar.tx;unfold ZaX at C2;unfold av at C1 |-
 generalize Ar.dct a.dicts (Ar.fa a.files i).dict=X at *;generalize (Ar.fa a.files i).dict=f1 at *;generalize (Ar.fa a.files i).blk=f4 at *
 obtain ⟨⟨T,E⟩,hTE⟩:∃ p,Ar.up a.dicts (Ar.fa a.files i)=p:=⟨_,rfl⟩
 rw [hTE] at hup C2 |-
 simp only at hup C2 |-
 subst hup
 have C3:Hid (∀ w',Calls Tryz.prog 62 #[.string X,.string f4] w' fun e w2=>e=.returned (.tuple #[.string T,.bool true])/\Below w'.heap.size w' w2):=fun w'=>(C2.out w').mono (by
  rintro e w2 ⟨x,rfl,h1,_,G⟩
  exact ⟨by rw [h1 rfl];rfl,G⟩)
 clear C2;clear hTE hok hh h hs hc c0 c2 c3;generalize a.dicts.length=D at *;generalize a.files.length=N at *;have hii:(i:Int)<(N:Int):=by omega
 have hNi:(N:Int)<=12:=by omega
 go_enter Tryz.func65,Tryz.ntmps65
 go_wp2_with fail
 have a0:(w.alloc (.cells #[.slice ad D cd,.slice (some ⟨b,off,none⟩) N cf] 25 (0,0))).cell? ⟨w.heap.size,0,none⟩=some (.slice ad D cd):=cN _ _ _ 0;have a1:(w.alloc (.cells #[.slice ad D cd,.slice (some ⟨b,off,none⟩) N cf] 25 (0,0))).cell? ⟨w.heap.size,1,none⟩=some (.slice (some ⟨b,off,none⟩) N cf):=cN _ _ _ 1;have B1:=hb (.cells #[.slice ad D cd,.slice (some ⟨b,off,none⟩) N cf] 25 (0,0));have hz:w.heap.size<(w.alloc (.cells #[.slice ad D cd,.slice (some ⟨b,off,none⟩) N cf] 25 (0,0))).heap.size:=by simp
 generalize (w.alloc (.cells #[.slice ad D cd,.slice (some ⟨b,off,none⟩) N cf] 25 (0,0)))=w1 at *;have k1:=(B1.cell (p:=⟨b,off+i*5+1,none⟩) hbl).trans c1;have k4:=(B1.cell (p:=⟨b,off+i*5+4,none⟩) hbl).trans c4;have hbl1:b<w1.heap.size:=nT hbl B1.size
 have HS:Hid (∀ w',Below w1.heap.size w1 w'->Below w1.heap.size w1 w'/\w'.cell? ⟨w.heap.size,0,none⟩=some (.slice ad D cd)/\w'.cell? ⟨w.heap.size,1,none⟩=some (.slice (some ⟨b,off,none⟩) N cf)/\w'.cell? ⟨b,off+i*5+1,none⟩=some (.int .i64 f1)/\w'.cell? ⟨b,off+i*5+4,none⟩=some (.string f4)):=fun w' h9 =>
  ⟨h9,(h9.cell (p:=⟨w.heap.size,0,none⟩) hz).trans a0,(h9.cell (p:=⟨w.heap.size,1,none⟩) hz).trans a1,(h9.cell (p:=⟨b,off+i*5+1,none⟩) hbl1).trans k1,(h9.cell (p:=⟨b,off+i*5+4,none⟩) hbl1).trans k4⟩
 have C1':Hid (∀ w',Below w1.heap.size w1 w'->Calls Tryz.prog 63 #[.agg #[.slice ad D cd,.slice (some ⟨b,off,none⟩) N cf],.int .i64 f1] w' fun e w2=>e=.returned (.string X)/\Below w'.heap.size w' w2):=fun w' h9=>C1.out w' (bch B1 h9 (nl _))
 clear a0 a1 k1 k4 c1 c4 C1;go_region_held3 (fun w'=>Below w1.heap.size w1 w'/\w'.cell? ⟨w.heap.size,0,none⟩=some (.slice ad D cd)/\w'.cell? ⟨w.heap.size,1,none⟩=some (.slice (some ⟨b,off,none⟩) N cf)/\w'.cell? ⟨b,off+i*5+1,none⟩=some (.int .i64 f1)/\w'.cell? ⟨b,off+i*5+4,none⟩=some (.string f4))
  (first | (exact HS.out _ ((bR _ _).drew)) | (exact HS.out _ (bch (And.left (by assumption)) G6 (nl _))) | (exact HS.out _ (bch (And.left (by assumption)) G5 (nl _))))
  (first
   | (go_at_call 63;refine (C1'.out _ ?_).mono ?_;exact And.left (by assumption);rintro e w5 ⟨rfl,G5⟩)
   | (go_at_call 62;refine (C3.out _).mono ?_;rintro e w6 ⟨rfl,G6⟩))
 all_goals
  have B6:Below w.heap.size w w6:=bch B1 (bch (bch ((bR _ _).drew) G5 (nl _)) G6 (nl _)) (nl _);go_wp2_with fail
  go_ret
  exact ⟨rfl,B6⟩
def tr0:Tr:=⟨fun _=>false,0⟩
theorem Zel:(Tryz.prog.info? 205).map (fun i=>(i.zero,i.size,i.bytes))=some (some (.agg (trc tr0)),17,24):=by kernel_rfl
theorem ZoM (t:Tr):Instr.fill (fun i=>some (i*17,17)) ((Array.range (1*17)).map ((Value.agg (trc tr0)).cells[· % (Value.agg (trc tr0)).cells.size]!)) [(0,.agg (trc t))]=some (trc t):=by kernel_rfl
def flat (l:List Tr):List Value:=l.flatMap fun t=>(trc t).toList
theorem ZbS (a b:List Tr):flat (a++b)=flat a++flat b:=by simp [flat]
theorem ZdU (t:Tr):flat [t]=(trc t).toList:=by simp [flat]
theorem ZdX (l:List Tr):(flat l).length=l.length*17:=by
 induction l with
 | nil=>rfl
 | cons t l ih =>
  have:flat (t :: l)=(trc t).toList++flat l:=by simp [flat]
  rw [this,List.length_append,ih,Array.length_toList,Zam,List.length_cons];omega
def tl (l:List Tr) (i:Nat):Tr:=l.getD i tr0
theorem Zsp (l:List Tr) (i j:Nat) (hi:i<l.length) (hj:j<17):(flat l)[i*17+j]?=(trc (tl l i)).toList[j]?:=by
 have e:l=l.take i++([tl l i]++l.drop (i+1)):=by
  have h1:tl l i=l[i]:=by simp [tl,List.getD_eq_getElem?_getD,List.getElem?_eq_getElem hi]
  rw [h1];simp
 have hlen:(flat (l.take i)).length=i*17:=by rw [ZdX,List.length_take,Nat.min_eq_left (by omega)]
 have:flat l=flat (l.take i)++(flat [tl l i]++flat (l.drop (i+1))):=by rw [<-ZbS,<-ZbS,<-e]
 rw [this,List.getElem?_append_right (by omega),hlen,show i*17+j - i*17=j by omega,ZdU,List.getElem?_append_left (by rw [Array.length_toList,Zam];exact hj)]
theorem Zbf {w:World} {g:Nat} {l:List Tr} (h:w.rangeAt g 0 (flat l)) {i:Nat} (hi:i<l.length):w.rangeAt g (i*17) (trc (tl l i)).toList:=fun j v hj=>by
 have hj17:j<17:=by
  have:=(List.getElem?_eq_some_iff.1 hj).1
  rwa [Array.length_toList,Zam] at this
 rw [<-Zsp l i j hi hj17] at hj;have:=h (i*17+j) v hj
 rwa [Nat.zero_add] at this
theorem Zch {w w':World} {g o:Nat} {cs:List Value} (h:w.rangeAt g o cs) (hb:Below w.heap.size w w') (hg:g<w.heap.size):w'.rangeAt g o cs:=fun j v hj=>by
 have:=h j v hj;rw [<-this];exact hb.cell (p:=⟨g,o+j,none⟩) hg
theorem ZeZ {w:World} {base n:Nat} {v:Value} {l:List Tr} (h:w.ownsRow base 205 17 v n (flat l)) (hl:l ≠ []):∃ g cap,v=.slice (some ⟨g,0,none⟩) l.length cap/\base<=g/\g<w.heap.size/\w.rangeAt g 0 (flat l):=by
 have hlen:=h.1;rw [ZdX] at hlen;obtain rfl:l.length=n:=by omega
 rcases h.2 with ⟨_,h0⟩ | ⟨g,cap,cur,rfl,hb,hg,hnc,hcm,hcs,htk⟩
 ·exact absurd (List.eq_nil_of_length_eq_zero h0) hl
 ·refine ⟨g,cap,rfl,hb,(aG.1 hg).1,fun j v hj=>?_⟩;rw [Nat.zero_add,cell_of_row w g j _ _ _ hg,<-hj,<-htk];have hj2:=(List.getElem?_eq_some_iff.1 hj).1;rw [ZdX] at hj2;rw [List.getElem?_take,if_pos hj2];simp
namespace Cd
def kF (l:List Tr):Nat->Nat
 | 0=>0
 | i+1=>if lgt (tl l i) (tl l (kF l i))=true then i else kF l i
theorem ZuT (l:List Tr):∀ i,kF l i<=i - 1:=by
 intro i
 induction i with
 | zero=>simp [kF]
 | succ i ih =>
  rw [kF];split <;> omega
theorem ZkA (t:Tr):lgt t t=false:=by simp [lgt]
theorem ZuJ (l:List Tr):kF l 1=0:=by rw [kF,kF,ZkA];rfl
def rK (l:List Tr) (k:Nat):Nat->List Tr
 | 0=>[]
 | i+1=>if i=k then rK l k i else rK l k i++[tl l i]
theorem Zud (l:List Tr) (k:Nat):∀ i,(rK l k i).length<=i:=by
 intro i
 induction i with
 | zero=>simp [rK]
 | succ i ih =>
  rw [rK];split
  ·omega
  ·simp;omega
end Cd
theorem ZrN:(#[.bool false,.bool false,.bool false,.bool false,.bool false,.bool false,.bool false,.bool false,.bool false,.bool false,.bool false,.bool false,.bool false,.bool false,.bool false,.bool false,.int .i64 0]:Array Value)=trc tr0:=rfl
theorem ZtP (w:World) (t:Tr):∀ j u,(trc t).toList[j]?=some u->(w.alloc (.cells (trc t) 205)).cell? ((⟨w.heap.size,0,none⟩:Addr).add j)=some u:=fun j u h=>by
 rw [Addr.add_mid,Nat.zero_add,cell_of_row _ w.heap.size j _ _ _ (heap_alloc_last w _)];simpa using h
theorem ZuZ (t:Tr):(trc t).toList.length=1*17:=by rw [Array.length_toList,Zam]
theorem Zvl (t:Tr):∀ u ∈ (trc t).toList,u.oneCell'=true:=by
 have:=Zdl t;rw [Array.all_eq_true_iff_forall_mem] at this;intro u hu;exact this u (by simpa using hu)
theorem ZhV {w w':World} {g o:Nat} {cs:List Value} (h:w.rangeAt g o cs) (he:w'.heap[g]?=w.heap[g]?):w'.rangeAt g o cs:=fun j v hj=>by
 have:=h j v hj;simp only [World.cell?,he] at this |-
 exact this
theorem ZaT {w w1:World} {g:Nat} {v:Value} {o:Obj} (hlt:g<w.heap.size) (hne:some g ≠ v.ownBlock) (hg:(w.alloc o).grownBy w1 v.ownBlock):w1.heap[g]?=w.heap[g]?:=by
 rw [hg.block g (by simp;omega) hne];exact ((bR w.heap.size w).alloc (nl _) o).block g hlt
theorem TrAt.block {w w':World} {g:Nat} {t:Tr} (H:TrAt w g t) (he:w'.heap[g]?=w.heap[g]?):TrAt w' g t:=by
 have h2:=he.trans H.2;exact ⟨(aG.1 h2).1,h2⟩
theorem TrAt.setRow {w:World} {g:Nat} {t:Tr} (H:TrAt w g t) (t':Tr):TrAt (w.setRow g (trc t')) g t':=by
 refine ⟨by have:=H.1;simpa [World.setRow] using this,?_⟩;show (w.heap.modify g _)[g]?=_;rw [Array.getElem?_modify,if_pos rfl,H.2];rfl
theorem Zlw {w:World} {base g:Nat} {t:TypeId} {sz n:Nat} {v:Value} {cs:List Value} (ho:w.ownsRow (g+1) t sz v n cs) (hb:base<=g+1) (c:Array Value):(w.setRow g c).ownsRow base t sz v n cs:=by
 refine ⟨ho.1,?_⟩;rcases ho.2 with h0 | ⟨q,cap,cur,rfl,e1,e2,e3⟩
 ·exact .inl h0
 ·refine .inr ⟨q,cap,cur,rfl,by omega,?_,e3⟩;show (w.heap.modify g _)[q]?=_;rw [Array.getElem?_modify,if_neg (by omega),e2]
theorem ZaG {ops:Array Oper} {rest:List Oper} {op:Oper} {a:Act} {w:World} {Q:Exit->Act->World->Prop} (hgd:op.guard=none) (x:Operand) (ho:op.op=.load 205 x)
 (b o:Nat) (hx:a.eval x=.pointer (some ⟨b,o,none⟩)) (t:Tr) (hc:w.rangeAt b o (trc t).toList) (h:wpList Tryz.prog ops Q rest (a.put op.dst (.agg (trc t))) w):wpList Tryz.prog ops Q (op :: rest) a w :=
 wpList_load_mid hgd 205 x ho b o hx (trc t).toList _ hc U205 rfl (by rw [Array.length_toList];exact ZU t) (by rw [Array.toArray_toList];exact h)
theorem Zaw {ops:Array Oper} {rest:List Oper} {o:Oper} {a:Act} {w:World} {Q:Exit->Act->World->Prop} (hg:o.guard=none) (x:Operand) (ho:o.op=.buildSlice 202 1 #[(0,x)]) (t:Tr) (hx:a.eval x=.agg (trc t))
 (h:wpList Tryz.prog ops Q rest (a.put o.dst (.slice (some ⟨w.heap.size,0,none⟩) 1 1)) (w.alloc (.cells (trc t) 205))):wpList Tryz.prog ops Q (o :: rest) a w:=by
 obtain ⟨i0,hi,hz0,hz1,hz2⟩:=info_parts Zel;refine wpList_buildSlice hg 202 205 1 _ ho (trc t) i0 (.agg (trc tr0)) U202 hi hz0 (by rw [hz1];decide) (by rw [hz1];decide) ?_ h;rw [hz1];have:=ZoM t;simp only [List.map_toArray,List.map_cons,List.map_nil,hx];exact this
theorem Zas {ops:Array Oper} {rest:List Oper} {o:Oper} {a:Act} {w:World} {Q:Exit->Act->World->Prop} (hgd:o.guard=none) (s x:Operand)
 (ho:o.op=.call { callee:=.builtin .append,args:=#[s,x],argTypes:=#[202,202] })
 (base:Nat) (v:Value) (l:List Tr) (hs:a.eval s=v) (hown:w.ownsRow base 205 17 v l.length (flat l)) (t:Tr) (hx:a.eval x=.slice (some ⟨w.heap.size,0,none⟩) 1 1)
 (hl:l.length<=1000) (hbase:base<=w.heap.size)
 (h:∀ v' w',w'.ownsRow base 205 17 v' (l++[t]).length (flat (l++[t]))->(w.alloc (.cells (trc t) 205)).grownBy w' v.ownBlock->wpList Tryz.prog ops Q rest (a.put o.dst v') w'):wpList Tryz.prog ops Q (o :: rest) a (w.alloc (.cells (trc t) 205)):=by
 obtain ⟨i0,hi,hz0,hz1,hz2⟩:=info_parts Zel;refine wpList_append_own _ hgd s x 202 ho base 205 i0 (.agg (trc tr0)) 17 24 U202 hi hz0 hz1 hz2 (Zam _) (by decide) v l.length (flat l) hs (hown.alloc _) ⟨w.heap.size,0,none⟩ 1 1 (trc t).toList hx (ZuZ t) (ZtP w t) (Zvl t) (ZaK (by omega)) (by omega) (by simp;omega) ?_;intro v' w' h1 h2 _;refine h v' w' ?_ h2;rw [ZbS,ZdU,List.length_append];exact h1
theorem Zcw (l:List Tr) (g cap:Nat) (w:World) (hl:1<=l.length) (hl2:l.length<=16) (hg:g<w.heap.size) (hr:w.rangeAt g 0 (flat l)) :
 Calls Tryz.prog 186 #[.slice (some ⟨g,0,none⟩) l.length cap] w fun e w'=>∃ v,e=.returned (.tuple #[.agg (trc (tl l (Cd.kF l l.length))),v])/\Below w.heap.size w w'/\w'.ownsRow w.heap.size 205 17 v (Cd.rK l (Cd.kF l l.length) l.length).length (flat (Cd.rK l (Cd.kF l l.length) l.length)):=by
 obtain ⟨i0,hi,hz0,hz1,hz2⟩:=info_parts Zel;have A1:=TrAt.new w tr0;have B1:Below w.heap.size w (w.alloc (.cells (trc tr0) 205)):=(bR _ _).alloc (nl _) _;have r1:=Zch hr ((bR w.heap.size w).alloc (nl _) (.cells (trc tr0) 205)) hg;have hl3:(l.length:Int)<=16:=by omega
 obtain ⟨KK,hKK⟩:∃ k,Cd.kF l l.length=k:=⟨_,rfl⟩
 rw [hKK];have HKK:Hid (Cd.kF l l.length=KK):=hKK;clear hKK;go_enter Tryz.func186,Tryz.ntmps186
 go_wp2_with fail
 rw [ZrN];generalize w.alloc (.cells (trc tr0) 205)=w0 at *;clear hr;have HG:Hid (g<w.heap.size):=hg;go_loopw [4,5] (fun kk ii wr=>∃ (i k:Nat),1<=i/\i<=l.length/\k<l.length/\ii=.int .i64 i/\kk=.int .i64 k/\Hid (Cd.kF l i=k)/\wr.rangeAt g 0 (flat l)/\TrAt wr w.heap.size tr0/\Below w.heap.size w wr) (fun _ i _=>20 - (intOf i).toNat)
 case atStart=>exact ⟨1,0,by omega,hl,by omega,rfl,rfl,Cd.ZuJ l,r1,A1,B1⟩
 case round =>
  clear r1 A1 B1;obtain ⟨i,k,hi1,hi2,hk,rfl,rfl,HK,r1,A1,B1⟩:=hrel;by_cases hlt:i<l.length
  ·have d1:decide ((i:Int)<(l.length:Int))=true:=by simp;omega
   have d1':decide (i<l.length)=true:=by simp;omega
   have hiI:(i:Int)<(l.length:Int):=by omega
   have hkI:(k:Int)<(l.length:Int):=by omega
   have hlg:=fun w=>Zih (tl l i) (tl l k) w
   have HK1:Hid (Cd.kF l (i+1)=if Cd.lgt (tl l i) (tl l k)=true then i else k):=by show _=_;rw [Cd.kF,HK.out]
   generalize Cd.lgt (tl l i) (tl l k)=c at *;have hti:=ZU (tl l i);have htk:=ZU (tl l k);go_wp2_with fail
   refine wp_region_held_drew (S:=fun w'=>w'.rangeAt g 0 (flat l)) (by kernel_rfl) (by simpa using r1) (fun hS=>?_);refine wK (i:=0) (fuel:=8) (v:=.slice (some ⟨g,0,none⟩) l.length cap) rfl (by kernel_rfl) (by kernel_rfl) (by kernel_rfl) (fun _ _ _ h=>h) (Or.inl ⟨by rfl,fun w _=>by go_simp⟩) hS ?_;refine wK (i:=1) (fuel:=7) (v:=.int .i64 (i:Int)) rfl (by kernel_rfl) (by kernel_rfl) (by kernel_rfl) (fun _ _ _ h=>h) (Or.inl ⟨by rfl,fun w _=>by go_simp⟩) hS ?_;refine wK (i:=2) (fuel:=6) (v:=.pointer (some ⟨g,i*17,none⟩)) rfl (by kernel_rfl) (by kernel_rfl) (by kernel_rfl) (fun _ _ _ h=>h) (Or.inl ⟨by rfl,fun w _=>by go_simp⟩) hS ?_;refine wK (i:=3) (fuel:=5) rfl (by kernel_rfl) (by kernel_rfl) (by kernel_rfl) (fun _ _ _ h=>h) (yieldsIf_load_mid (by rfl) 205 _ rfl g (i*17) rfl (trc (tl l i)).toList _ (fun w' h'=>Zbf h' hlt) U205 rfl (by rw [Array.length_toList];exact hti)) hS ?_;refine wK (i:=4) (fuel:=4) (v:=.slice (some ⟨g,0,none⟩) l.length cap) rfl (by kernel_rfl) (by kernel_rfl) (by kernel_rfl) (fun _ _ _ h=>h) (Or.inl ⟨by rfl,fun w _=>by go_simp⟩) hS ?_;refine wK (i:=5) (fuel:=3) (v:=.int .i64 (k:Int)) rfl (by kernel_rfl) (by kernel_rfl) (by kernel_rfl) (fun _ _ _ h=>h) (Or.inl ⟨by rfl,fun w _=>by go_simp⟩) hS ?_;refine wK (i:=6) (fuel:=2) (v:=.pointer (some ⟨g,k*17,none⟩)) rfl (by kernel_rfl) (by kernel_rfl) (by kernel_rfl) (fun _ _ _ h=>h) (Or.inl ⟨by rfl,fun w _=>by go_simp⟩) hS ?_;refine wK (i:=7) (fuel:=1) rfl (by kernel_rfl) (by kernel_rfl) (by kernel_rfl) (fun _ _ _ h=>h) (yieldsIf_load_mid (by rfl) 205 _ rfl g (k*17) rfl (trc (tl l k)).toList _ (fun w' h'=>Zbf h' hk) U205 rfl (by rw [Array.length_toList];exact htk)) hS ?_;refine Zfp (i:=8) (fuel:=0) (by kernel_rfl) (by kernel_rfl) rfl rfl (fun K hK=>?_);go_simp
   refine (hlg _).mono ?_;rintro e w4 ⟨rfl,G4⟩;have r4:=Zch (show wr.drew.rangeAt g 0 (flat l) from hS) G4 (nT HG.out B1.size);have A4:=(show TrAt wr.drew w.heap.size tr0 from A1).below G4;have B4:=bch (show Below w.heap.size w wr.drew from B1.drew) G4 (nl _);clear r1 A1 B1 G4 hlg hS;refine hK _ _ r4 ?_;clear hK
   cases c with
   | true =>
    go_wp2_with fail
    exact ⟨⟨i+1,i,by omega,by omega,by omega,by go_num,rfl,HK1.out,r4,A4,B4⟩,by simp [intOf];omega⟩
   | false =>
    go_wp2_with fail
    exact ⟨⟨i+1,k,by omega,by omega,hk,by go_num,rfl,HK1.out,r4,A4,B4⟩,by simp [intOf];omega⟩
  ·obtain rfl:i=l.length:=by omega
   obtain rfl:KK=k:=HKK.out.symm.trans HK.out;have d1:decide ((l.length:Int)<(l.length:Int))=false:=by simp
   have d1':decide (l.length<l.length)=false:=by simp
   have hkI:(KK:Int)<(l.length:Int):=by omega
   clear hlt HK HKK;go_wp2_with fail
   clear d1 d1';go_loopw [6,7] (fun v i wr=>∃ k:Nat,k<=l.length/\i=.int .i64 k/\wr.ownsRow (w.heap.size+1) 205 17 v (Cd.rK l KK k).length (flat (Cd.rK l KK k))/\wr.rangeAt g 0 (flat l)/\TrAt wr w.heap.size tr0/\Below w.heap.size w wr) (fun _ i _=>20 - (intOf i).toNat)
   case atStart=>exact ⟨0,by omega,rfl,World.ownsRow_nil _ _ _ _,r1,A1,B1⟩
   case round =>
    clear r1 A1 B1;obtain ⟨i,hi2,rfl,ho,r1,A1,B1⟩:=hrel;have hrl:=Cd.Zud l KK i;by_cases hlt:i<l.length
    ·have d1:decide ((i:Int)<(l.length:Int))=true:=by simp;omega
     have d1':decide (i<l.length)=true:=by simp;omega
     have hiI:(i:Int)<(l.length:Int):=by omega
     by_cases hik:i=KK
     ·have d2:((i:Int) != (KK:Int))=false:=by simp;omega
      have HR:Hid (Cd.rK l KK (i+1)=Cd.rK l KK i):=by show _=_;rw [Cd.rK,if_pos hik]
      clear hik;go_wp2_with fail
      exact ⟨⟨i+1,by omega,by go_num,by rw [HR.out];exact ho,r1,A1,B1⟩,by simp [intOf];omega⟩
     ·have d2:((i:Int) != (KK:Int))=true:=by simp;omega
      have HR:Hid (Cd.rK l KK (i+1)=Cd.rK l KK i++[tl l i]):=by show _=_;rw [Cd.rK,if_neg hik]
      have rt:=Zbf r1 hlt;have hgs:w.heap.size<wr.heap.size:=A1.1;have hgg:g<wr.heap.size:=nT HG.out B1.size;generalize Cd.rK l KK i=rs at *;generalize tl l i=t at *;clear hik;go_wp2_with (first | refine ZaG rfl _ rfl g (i*17) rfl t rt ?_ | refine Zaw rfl _ rfl t rfl ?_ | (at_builtin;go_must (refine Zas rfl _ _ rfl (w.heap.size+1) _ rs rfl ho t rfl (by omega) (by omega) ?_;intro v' w6 hown' hgrow)))
      have hne:∀ q,q<=w.heap.size->some q ≠ Value.ownBlock u6:=fun q hq e=>by have:=(ho.lt q e.symm).1;omega
      have r6:=ZhV r1 (ZaT hgg (hne _ (nL HG.out)) hgrow);have A6:=A1.block (ZaT hgs (hne _ (nl _)) hgrow);have B6:Below w.heap.size w w6:=(B1.alloc B1.size _).grown hgrow (by have:=B1.size;simp;omega) (fun j hj=>by have:=(ho.lt j hj).1;omega);exact ⟨⟨i+1,by omega,by go_num,by rw [HR.out];exact hown',r6,A6,B6⟩,by simp [intOf];omega⟩
    ·obtain rfl:i=l.length:=by omega
     have d1:decide ((l.length:Int)<(l.length:Int))=false:=by simp
     have d1':decide (l.length<l.length)=false:=by simp
     have rt:=Zbf r1 hk;have hti:=ZU (tl l KK);go_wp2_with (first | refine ZaG rfl _ rfl g (KK*17) rfl (tl l KK) rt ?_ | refine wpList_store_row rfl 205 _ _ rfl w.heap.size (trc (tl l KK)) rfl rfl 205 _ A1.2 hti (by rw [Zam,Zam]) (Zdl _) ?_)
     have U2:=A1.setRow (tl l KK);exact bodyPost_ret (v:=.tuple #[.agg (trc (tl l KK)),u6]) (ZM Tryz.results186 _ _ w.heap.size 205 _ (0,0) _ rfl U2.2 U205 rfl hti _ rfl) rfl ⟨_,rfl,Zq B1 (nl _) _,Zlw ho (by omega) _⟩
namespace Cd
def mrg (a b:Tr):Tr:=⟨fun i=>a.h i || b.h i,a.w+b.w⟩
def incr (t:Tr) (L:Nat->Int):Nat->Int:=fun i=>if t.h i=true then L i+1 else L i
def fst (l:List Tr):Tr:=tl l (kF l l.length)
def oth (l:List Tr):List Tr:=rK l (kF l l.length) l.length
def boR:Nat->List Tr->(Nat->Int)->(Nat->Int)
 | 0,_,L=>L
 | n+1,l,L=>if l.length<=1 then L else boR n (oth (oth l)++[mrg (fst l) (fst (oth l))]) (incr (mrg (fst l) (fst (oth l))) L)
theorem ZqE (l:List Tr) (k:Nat):∀ i,i<=l.length->rK l k i=(l.take i).eraseIdx k:=by
 intro i
 induction i with
 | zero=>intro _;simp [rK]
 | succ i ih =>
  intro hi
  have e:l.take (i+1)=l.take i++[tl l i]:=by
   rw [List.take_add_one,List.getElem?_eq_getElem (by omega)];simp [tl,List.getD_eq_getElem?_getD,List.getElem?_eq_getElem (show i<l.length by omega)]
  have hl:(l.take i).length=i:=by rw [List.length_take];omega
  rw [rK,ih (by omega),e];by_cases h:i=k
  ·rw [if_pos h,<-h,List.eraseIdx_append_of_length_le (by omega),hl,Nat.sub_self,List.eraseIdx_of_length_le (by omega)];simp
  ·rw [if_neg h];by_cases h2:k<i
   ·rw [List.eraseIdx_append_of_lt_length (by omega)]
   ·rw [List.eraseIdx_append_of_length_le (by omega),hl,List.eraseIdx_of_length_le (by omega),List.eraseIdx_of_length_le (by simp;omega)]
theorem ZcH (l:List Tr):oth l=l.eraseIdx (kF l l.length):=by rw [oth,ZqE l _ _ (Nat.le_refl _),List.take_length]
theorem Zms (s t:Tr):lgt s t=true ↔ s.w<t.w\/(s.w=t.w/\ls s.h<ls t.h):=by
 unfold lgt;by_cases h:s.w=t.w
 ·rw [if_pos h,decide_eq_true_eq];omega
 ·rw [if_neg h,decide_eq_true_eq];omega
theorem ZuQ (l:List Tr):∀ i,∀ j,j<i->lgt (tl l j) (tl l (kF l i))=false:=by
 intro i
 induction i with
 | zero=>intro j h;omega
 | succ i ih =>
  intro j hj;rw [kF];by_cases h:lgt (tl l i) (tl l (kF l i))=true
  ·rw [if_pos h];by_cases e:j=i
   ·subst e;exact ZkA _
   ·have h1:=ih j (by omega);rw [Bool.eq_false_iff] at h1 |-
    intro h2;apply h1;rw [Zms] at h h2 |-
    omega
  ·rw [if_neg h];by_cases e:j=i
   ·subst e;exact Bool.eq_false_iff.2 h
   ·exact ih j (by omega)
def tof (W T:Nat->Int) (r:Nat):Tr:=⟨fun i=>decide (T i=(r:Int)),W r⟩
structure Reps (W T:Nat->Int) (rs:List Nat):Prop where
 nd:rs.Nodup
 mem:∀ r,r ∈ rs ↔ r<16/\W r ≠ 0
 self:∀ r,r ∈ rs->T r=(r:Int)
 least:∀ r,r ∈ rs->∀ i,T i=(r:Int)->r<=i
theorem Zuv {h:Nat->Bool} {r:Nat} (hr:h r=true):∀ m k,k<=r->r<k+m->(∀ i,k<=i->i<r->h i=false)->lsF h m k=r:=by
 intro m
 induction m with
 | zero=>intro k h1 h2 _;omega
 | succ m ih =>
  intro k h1 h2 h3;rw [lsF];by_cases e:k=r
  ·subst e;rw [if_pos hr]
  ·rw [if_neg (by simp [h3 k (Nat.le_refl _) (by omega)])];exact ih (k+1) (by omega) (by omega) (fun i h4 h5=>h3 i (by omega) h5)
theorem Reps.ls {W T:Nat->Int} {rs:List Nat} (H:Reps W T rs) {r:Nat} (hr:r ∈ rs):ls (tof W T r).h=r:=by
 have h16:=((H.mem r).1 hr).1;refine Zuv (by simp [tof,H.self r hr]) 16 0 (by omega) (by omega) (fun i _ hi=>?_);simp only [tof,decide_eq_false_iff_not];intro h;have:=H.least r hr i h;omega
theorem ZmZ {W T:Nat->Int} {rs:List Nat} {j:Nat} (h:j<rs.length):tl (rs.map (tof W T)) j=tof W T rs[j]:=by
 simp [tl,List.getD_eq_getElem?_getD,List.getElem?_eq_getElem h]
theorem ZgN {α β:Type} (f:α->β):∀ (l:List α) (k:Nat),(l.map f).eraseIdx k=(l.eraseIdx k).map f
 | [],_=>by simp
 | _ :: _,0=>by simp
 | a :: l,k+1=>by simp [ZgN f l k]
theorem ZjB {W T:Nat->Int} {rs:List Nat} (hls:∀ r,r ∈ rs->ls (tof W T r).h=r) (hn:rs ≠ []):∃ k,∃ h:k<rs.length,fst (rs.map (tof W T))=tof W T rs[k]/\oth (rs.map (tof W T))=(rs.eraseIdx k).map (tof W T)/\∀ r,r ∈ rs->W rs[k]<W r\/(W rs[k]=W r/\rs[k]<=r):=by
 have hl:0<rs.length:=List.length_pos_iff.2 hn
 obtain ⟨k,hk⟩:∃ k,kF (rs.map (tof W T)) (rs.map (tof W T)).length=k:=⟨_,rfl⟩
 have hlt:=ZuT (rs.map (tof W T)) (rs.map (tof W T)).length;rw [hk,List.length_map] at hlt;have hkl:k<rs.length:=by omega
 refine ⟨k,hkl,?_,?_,fun r hr=>?_⟩
 ·rw [fst,hk,ZmZ hkl]
 ·rw [ZcH,hk,ZgN]
 ·obtain ⟨j,hj,rfl⟩:=List.getElem_of_mem hr;have h1:=ZuQ (rs.map (tof W T)) (rs.map (tof W T)).length j (by rw [List.length_map];exact hj);rw [hk,ZmZ hj,ZmZ hkl,Bool.eq_false_iff] at h1;rw [Ne,Zms,hls _ (List.getElem_mem hj),hls _ (List.getElem_mem hkl)] at h1;simp only [tof] at h1;omega
theorem Zob (W:Nat->Int):∀ k,(∀ i,i<k->W i ≠ 0->(lt2 W k).1 ≠ -1/\(W (lt2 W k).1.toNat<W i\/(W (lt2 W k).1.toNat=W i/\(lt2 W k).1<=(i:Int))))/\(∀ i,i<k->W i ≠ 0->(i:Int) ≠ (lt2 W k).1->(lt2 W k).2 ≠ -1/\(W (lt2 W k).2.toNat<W i\/(W (lt2 W k).2.toNat=W i/\(lt2 W k).2<=(i:Int)))):=by
 intro k
 induction k with
 | zero=>exact ⟨fun i h=>by omega,fun i h=>by omega⟩
 | succ k ih =>
  obtain ⟨i1,i2⟩:=ih;have hs:=ZdE W k;have hb:∀ a,Sg W k a->a<(k:Int):=fun a h=>by rcases h with h | ⟨p,h1,h2,_⟩ <;> omega
  have b1:=hb _ hs.1;have b2:=hb _ hs.2;rw [lt2,ltS];generalize lt2 W k=P at *;obtain ⟨A,B⟩:=P;simp only at *;by_cases h0:W k=0
  ·rw [if_pos h0];refine ⟨fun i hi ni=>i1 i ?_ ni,fun i hi ni=>i2 i ?_ ni⟩ <;> (by_cases e:i=k;(subst e;exact absurd h0 ni);omega)
  ·rw [if_neg h0];by_cases h1:A=-1\/W k<W A.toNat
   ·rw [if_pos h1];simp only [Int.toNat_natCast];refine ⟨fun i hi ni=>⟨by omega,?_⟩,fun i hi ni ne=>?_⟩
    ·by_cases e:i=k
     ·subst e;omega
     ·have:=i1 i (by omega) ni;omega
    ·exact i1 i (by omega) ni
   ·rw [if_neg h1];by_cases h2:B=-1\/W k<W B.toNat
    ·rw [if_pos h2];simp only [Int.toNat_natCast];refine ⟨fun i hi ni=>?_,fun i hi ni ne=>⟨by omega,?_⟩⟩
     ·by_cases e:i=k
      ·subst e;omega
      ·exact i1 i (by omega) ni
     ·by_cases e:i=k
      ·subst e;omega
      ·have:=i2 i (by omega) ni ne;omega
    ·rw [if_neg h2];simp only;refine ⟨fun i hi ni=>?_,fun i hi ni ne=>?_⟩
     ·by_cases e:i=k
      ·subst e;omega
      ·exact i1 i (by omega) ni
     ·by_cases e:i=k
      ·subst e;omega
      ·exact i2 i (by omega) ni ne
theorem ZmK {rs:List Nat} (h:rs.Nodup) {i j:Nat} (hi:i<rs.length) (hj:j<rs.length) (e:rs[i]=rs[j]):i=j:=by
 have h1:=List.pairwise_iff_getElem.1 h;rcases Nat.lt_trichotomy i j with h2 | h2 | h2
 ·exact absurd e (h1 i j hi hj h2)
 ·exact h2
 ·exact absurd e.symm (h1 j i hj hi h2)
theorem ZhS {rs:List Nat} (h:rs.Nodup) {k:Nat} (hk:k<rs.length) (x:Nat):x ∈ rs.eraseIdx k ↔ x ∈ rs/\x ≠ rs[k]:=by
 rw [List.mem_eraseIdx_iff_getElem];constructor
 ·rintro ⟨i,hi,hne,rfl⟩;exact ⟨gM _,fun e=>hne (ZmK h hi hk e)⟩
 ·rintro ⟨h1,h2⟩;obtain ⟨i,hi,rfl⟩:=List.getElem_of_mem h1;exact ⟨i,hi,fun e=>h2 (by subst e;rfl),rfl⟩
theorem Zjp {rs:List Nat} (h:rs.Nodup) (k:Nat):(rs.eraseIdx k).Nodup:=List.Nodup.sublist (List.eraseIdx_sublist rs k) h
theorem ZqN:∀ n (W T L:Nat->Int) (rs:List Nat),Reps W T rs->(∀ i,i<16->0<=W i)->boR n (rs.map (tof W T)) L=bldR n W T L:=by
 intro n
 induction n with
 | zero=>intro W T L rs _ _;rfl
 | succ n ih =>
  intro W T L rs H hW;obtain ⟨x1,x2⟩:=Zob W 16;by_cases hsec:(lt2 W 16).2=-1
  ·rw [ZfA hsec,boR,if_pos];rw [List.length_map];rcases Nat.lt_or_ge 1 rs.length with h | h
   ·exfalso
    have m0:=(H.mem _).1 (gM (show 0<rs.length by omega));have m1:=(H.mem _).1 (gM h);have hne:rs[0] ≠ rs[1]:=fun e=>by have:=ZmK H.nd (by omega) h e;omega
    by_cases e:((rs[0]:Nat):Int)=(lt2 W 16).1
    ·exact (x2 rs[1] m1.1 m1.2 (by omega)).1 hsec
    ·exact (x2 rs[0] m0.1 m0.2 e).1 hsec
   ·exact h
  ·obtain ⟨p,q,hpq,hp,hq,hne,np,nq⟩:=Zcm hsec;rw [hpq] at x1 x2;simp only [Int.toNat_natCast] at x1 x2;have mp:p ∈ rs:=(H.mem p).2 ⟨hp,np⟩;have mq:q ∈ rs:=(H.mem q).2 ⟨hq,nq⟩;have hls:∀ r,r ∈ rs->ls (tof W T r).h=r:=fun r hr=>H.ls hr
   obtain ⟨k1,hk1,f1,o1,l1⟩:=ZjB hls (List.ne_nil_of_mem mp)
   have e1:rs[k1]=p:=by
    have a1:=l1 p mp;have m1:=(H.mem _).1 (gM hk1);have a2:=x1 rs[k1] m1.1 m1.2;omega
   rw [e1] at f1 l1;have hm1:=ZhS H.nd hk1;rw [e1] at hm1;have hnd1:=Zjp H.nd k1
   have hlen:¬ (rs.map (tof W T)).length<=1:=by
    rw [List.length_map];intro h;obtain ⟨i,hi,e⟩:=List.getElem_of_mem mp;obtain ⟨j,hj,e'⟩:=List.getElem_of_mem mq;have:i=j:=by omega
    subst this;exact hne (by rw [<-e,<-e'])
   generalize rs.eraseIdx k1=rs1 at *;have mq1:q ∈ rs1:=(hm1 q).2 ⟨mq,fun e=>hne e.symm⟩;obtain ⟨k2,hk2,f2,o2,l2⟩:=ZjB (fun r hr=>hls r ((hm1 r).1 hr).1) (List.ne_nil_of_mem mq1)
   have e2:rs1[k2]=q:=by
    have a1:=l2 q mq1;have b1:=(hm1 _).1 (gM hk2);have m1:=(H.mem _).1 b1.1;have a2:=x2 rs1[k2] m1.1 m1.2 (by omega);omega
   rw [e2] at f2 l2;have hm2:=ZhS hnd1 hk2;rw [e2] at hm2;have hnd2:=Zjp hnd1 k2;generalize rs1.eraseIdx k2=rs2 at *;have hr2:∀ r,r ∈ rs2 ↔ r ∈ rs/\r ≠ p/\r ≠ q:=fun r=>by rw [hm2,hm1];exact ⟨fun h=>⟨h.1.1,h.1.2,h.2⟩,fun h=>⟨⟨h.1,h.2.1⟩,h.2.2⟩⟩
   obtain ⟨w1,w2,w3⟩:=ZqM (W:=W) hne;have hWp:=hW p hp;have hWq:=hW q hq;rw [boR,if_neg hlen,f1,o1,f2,o2,ZeL hpq]
   have eL:incr (mrg (tof W T p) (tof W T q)) L=rL T L p q:=by
    funext i
    simp only [incr,mrg,tof,rL,Bool.or_eq_true,decide_eq_true_eq]
   have eM:mrg (tof W T p) (tof W T q)=tof (rW W p q) (rT T p q) (min p q):=by
    unfold mrg tof;rw [w1]
    congr 1
    funext i
    rw [Bool.eq_iff_iff,Bool.or_eq_true,decide_eq_true_eq,decide_eq_true_eq,decide_eq_true_eq];by_cases h:T i=(p:Int)\/T i=(q:Int)
    ·have hT:rT T p q i=((min p q:Nat):Int):=if_pos h;exact ⟨fun _=>hT,fun _=>h⟩
    ·have hT:rT T p q i=T i:=if_neg h;rw [hT];omega
   have eR:rs2.map (tof W T)=rs2.map (tof (rW W p q) (rT T p q)):=by
    apply List.map_congr_left;intro r hr;obtain ⟨_,n1,n2⟩:=(hr2 r).1 hr;unfold tof;rw [w3 r n1 n2]
    congr 1
    funext i
    rw [Bool.eq_iff_iff,decide_eq_true_eq,decide_eq_true_eq];by_cases h:T i=(p:Int)\/T i=(q:Int)
    ·have hT:rT T p q i=((min p q:Nat):Int):=if_pos h;rw [hT];omega
    ·have hT:rT T p q i=T i:=if_neg h;rw [hT]
   rw [eL,eM,eR,<-List.map_singleton,<-List.map_append];refine ih (rW W p q) (rT T p q) (rL T L p q) (rs2++[min p q]) ⟨?_,fun r=>?_,fun r hr=>?_,fun r hr i hi=>?_⟩ (Zjv hW hp hq)
   ·rw [List.nodup_append];refine ⟨hnd2,by simp,fun a ha b hb=>?_⟩;simp only [List.mem_singleton] at hb;have:=(hr2 a).1 ha;omega
   ·rw [List.mem_append,List.mem_singleton,hr2 r,H.mem r];by_cases e:r=min p q
    ·subst e;rw [w1];refine ⟨fun _=>⟨by omega,by omega⟩,fun _=>.inr rfl⟩
    ·by_cases e2:r=max p q
     ·subst e2;rw [w2];refine ⟨fun h=>?_,fun h=>absurd rfl h.2⟩;rcases h with h | h
      ·omega
      ·omega
     ·rw [w3 r (by omega) (by omega)];refine ⟨fun h=>?_,fun h=>.inl ⟨h,by omega,by omega⟩⟩;rcases h with h | h
      ·exact h.1
      ·exact absurd h e
   ·rw [List.mem_append,List.mem_singleton] at hr;rcases hr with hr | hr
    ·obtain ⟨m,n1,n2⟩:=(hr2 r).1 hr;have:=H.self r m;simp only [rT];rw [if_neg (by omega),this]
    ·subst hr;have h1:=H.self p mp;have h2:=H.self q mq;simp only [rT];by_cases h:p<=q
     ·rw [show min p q=p by omega,if_pos (.inl h1)]
     ·rw [show min p q=q by omega,if_pos (.inr h2)]
   ·rw [List.mem_append,List.mem_singleton] at hr;simp only [rT] at hi;rcases hr with hr | hr
    ·obtain ⟨m,n1,n2⟩:=(hr2 r).1 hr;by_cases h:T i=(p:Int)\/T i=(q:Int)
     ·rw [if_pos h] at hi;omega
     ·rw [if_neg h] at hi;exact H.least r m i hi
    ·subst hr;by_cases h:T i=(p:Int)\/T i=(q:Int)
     ·rcases h with h | h
      ·have:=H.least p mp i h;omega
      ·have:=H.least q mq i h;omega
     ·rw [if_neg h] at hi;omega
def in0 (c:Nat->Int):Nat->List Nat
 | 0=>[]
 | k+1=>if 0<c k then in0 c k++[k] else in0 c k
theorem ZaR (c:Nat->Int):∀ k r,r ∈ in0 c k ↔ r<k/\0<c r:=by
 intro k
 induction k with
 | zero=>intro r;simp [in0]
 | succ k ih =>
  intro r;rw [in0];by_cases h:0<c k
  ·rw [if_pos h,List.mem_append,ih,List.mem_singleton];constructor
   ·rintro (h1 | h1)
    ·exact ⟨by omega,h1.2⟩
    ·subst h1;exact ⟨by omega,h⟩
   ·rintro ⟨h1,h2⟩;by_cases e:r=k
    ·exact .inr e
    ·exact .inl ⟨by omega,h2⟩
  ·rw [if_neg h,ih];constructor
   ·rintro ⟨h1,h2⟩;exact ⟨by omega,h2⟩
   ·rintro ⟨h1,h2⟩;by_cases e:r=k
    ·subst e;exact absurd h2 h
    ·exact ⟨by omega,h2⟩
theorem Zrm (c:Nat->Int):∀ k,(in0 c k).Nodup:=by
 intro k
 induction k with
 | zero=>simp [in0]
 | succ k ih =>
  rw [in0];split
  ·rw [List.nodup_append];refine ⟨ih,by simp,fun a ha b hb=>?_⟩;simp only [List.mem_singleton] at hb;have:=(ZaR c k a).1 ha;omega
  ·exact ih
theorem Zot (c:Nat->Int):∀ k,(in0 c k).length<=k:=by
 intro k
 induction k with
 | zero=>simp [in0]
 | succ k ih =>
  rw [in0];split
  ·simp;omega
  ·omega
theorem ZjZ {c:Nat->Int} (hc:∀ i,i<16->0<=c i):Reps c (fun i=>i) (in0 c 16) :=
 ⟨Zrm c 16,fun r=>by
  rw [ZaR];constructor
  ·rintro ⟨h1,h2⟩;exact ⟨h1,by omega⟩
  ·rintro ⟨h1,h2⟩;have:=hc r h1;exact ⟨h1,by omega⟩,fun r _=>rfl,fun r _ i h=>by have h9:((i:Nat):Int)=(r:Int):=h;omega⟩
theorem Zoq {c:Nat->Int} (h:InR c 2048 16):(in0 c 16=[]->bld c=(fun _=>0,5))/\(∀ r,in0 c 16=[r]->bld c=(upd (fun _=>0) r 1,0))/\(2<=(in0 c 16).length->bld c=(boR 16 ((in0 c 16).map (tof c fun i=>i)) (fun _=>0),0)):=by
 have hc:∀ i,i<16->0<=c i:=fun i hi=>(h i hi).1
 obtain ⟨x1,x2⟩:=Zob c 16;obtain ⟨s1,s2⟩:=ZdE c 16;refine ⟨fun e=>?_,fun r e=>?_,fun e=>?_⟩
 ·rcases s1 with s1 | ⟨p,e1,hp,np⟩
  ·rw [bld,if_neg (fun h9=>h9 h),if_pos s1]
  ·exfalso
   have:=(ZaR c 16 p).2 ⟨hp,by have:=hc p hp;omega⟩;rw [e] at this;simp at this
 ·have mr:=(ZaR c 16 r).1 (by rw [e];simp);have hf:=x1 r mr.1 (by omega)
  have hfst:(lt2 c 16).1=(r:Int):=by
   rcases s1 with s1 | ⟨p,e1,hp,np⟩
   ·exact absurd s1 hf.1
   ·have:=(ZaR c 16 p).2 ⟨hp,by have:=hc p hp;omega⟩;rw [e,List.mem_singleton] at this;omega
  have hsec:(lt2 c 16).2=-1:=by
   by_cases h9:(lt2 c 16).2=-1
   ·exact h9
   ·exfalso
    obtain ⟨p,q,hpq,hp,hq,hne,np,nq⟩:=Zcm h9;have m1:=(ZaR c 16 p).2 ⟨hp,by have:=hc p hp;omega⟩;have m2:=(ZaR c 16 q).2 ⟨hq,by have:=hc q hq;omega⟩;rw [e,List.mem_singleton] at m1 m2;omega
  rw [bld,if_neg (fun h9=>h9 h),if_neg hf.1,if_pos hsec,hfst,Int.toNat_natCast]
 ·have m0:=(ZaR c 16 _).1 (gM (show 0<(in0 c 16).length by omega));have m1:=(ZaR c 16 _).1 (gM (show 1<(in0 c 16).length by omega));have hne:(in0 c 16)[0] ≠ (in0 c 16)[1]:=fun e9=>by have:=ZmK (Zrm c 16) (by omega) (by omega) e9;omega
  have hf:=x1 _ m0.1 (by omega)
  have hsec:(lt2 c 16).2 ≠ -1:=by
   by_cases e9:(((in0 c 16)[0]:Nat):Int)=(lt2 c 16).1
   ·exact (x2 _ m1.1 (by omega) (by omega)).1
   ·exact (x2 _ m0.1 (by omega) e9).1
  rw [bld,if_neg (fun h9=>h9 h),if_neg hf.1,if_neg hsec,ZqN 16 c (fun i=>i) _ _ (ZjZ hc) hc]
def sw (l:List Tr):Int:=(l.map (·.w)).sum
theorem Zjh:∀ (l:List Tr) (k:Nat) (h:k<l.length),sw (l.eraseIdx k)+l[k].w=sw l
 | a :: l,0,_=>by simp [sw];omega
 | a :: l,k+1,h=>by
  have:=Zjh l k (by simpa using h);simp only [sw,List.eraseIdx_cons_succ,List.map_cons,List.sum_cons,List.getElem_cons_succ] at this |-
  omega
theorem Zrx {l:List Tr} {k:Nat} (h:k<l.length):tl l k=l[k]:=by simp [tl,List.getD_eq_getElem?_getD,List.getElem?_eq_getElem h]
theorem ZnG {l:List Tr} (h:1<=l.length):kF l l.length<l.length:=by have:=ZuT l l.length;omega
theorem ZnM {l:List Tr} (h:1<=l.length):(oth l).length+1=l.length:=by
 rw [ZcH,List.length_eraseIdx_of_lt (ZnG h)];omega
theorem Zrr {l:List Tr} (h:1<=l.length):sw (oth l)+(fst l).w=sw l:=by
 rw [ZcH,fst,Zrx (ZnG h)];exact Zjh l _ _
theorem Zoa {l:List Tr} (h:1<=l.length) (hw:∀ t,t ∈ l->0<=t.w):(∀ t,t ∈ oth l->0<=t.w)/\0<=(fst l).w:=by
 refine ⟨fun t ht=>?_,?_⟩
 ·rw [ZcH] at ht;exact hw t (List.mem_of_mem_eraseIdx ht)
 ·rw [fst,Zrx (ZnG h)];exact hw _ (gM _)
theorem Zri:∀ (l:List Tr),(∀ t,t ∈ l->0<=t.w)->0<=sw l
 | [],_=>by simp [sw]
 | a :: l,h=>by
  have:=Zri l (fun t ht=>h t (by simp [ht]));have h1:=h a (by simp);simp only [sw,List.map_cons,List.sum_cons] at this |-
  omega
theorem ZuN (l:List Tr) (t:Tr):sw (l++[t])=sw l+t.w:=by simp [sw]
structure Fine (l:List Tr) (L:Nat->Int):Prop where
 len:l.length<=16
 pos:∀ t,t ∈ l->0<=t.w
 sum:sw l<=32768
 low:∀ i,0<=L i/\L i+(l.length:Int)<=16
theorem Fine.two {l:List Tr} {L:Nat->Int} (H:Fine l L) (h:2<=l.length):0<=(fst l).w/\0<=(fst (oth l)).w/\(fst l).w+(fst (oth l)).w<=32768/\(oth l).length+1=l.length/\(oth (oth l)).length+2=l.length/\Fine (oth (oth l)++[mrg (fst l) (fst (oth l))]) (incr (mrg (fst l) (fst (oth l))) L):=by
 have l1:=ZnM (l:=l) (by omega);have l2:=ZnM (l:=oth l) (by omega);have s1:=Zrr (l:=l) (by omega);have s2:=Zrr (l:=oth l) (by omega);obtain ⟨p1,q1⟩:=Zoa (l:=l) (by omega) H.pos;obtain ⟨p2,q2⟩:=Zoa (l:=oth l) (by omega) p1;have p3:=Zri _ p2;have hs:=H.sum;refine ⟨q1,q2,by omega,l1,by omega,?_,fun t ht=>?_,?_,fun i=>?_⟩
 ·have:=H.len;rw [List.length_append,List.length_singleton];omega
 ·rw [List.mem_append,List.mem_singleton] at ht;rcases ht with ht | ht
  ·exact p2 t ht
  ·subst ht;show 0<=(fst l).w+(fst (oth l)).w;omega
 ·rw [ZuN];show sw (oth (oth l))+((fst l).w+(fst (oth l)).w)<=_;omega
 ·have:=H.low i;rw [List.length_append,List.length_singleton];unfold incr;split <;> omega
theorem Zuo:∀ (l:List Tr),(∀ t,t ∈ l->t.w<=2048)->sw l<=2048*l.length
 | [],_=>by simp [sw]
 | a :: l,h=>by
  have:=Zuo l (fun t ht=>h t (by simp [ht]));have h1:=h a (by simp);simp only [sw,List.map_cons,List.sum_cons,List.length_cons] at this |-
  omega
theorem Zva {c:Nat->Int} (h:InR c 2048 16):Fine ((in0 c 16).map (tof c fun i=>i)) (fun _=>0):=by
 have hl:=Zot c 16
 have hb:∀ t,t ∈ (in0 c 16).map (tof c fun i=>i)->0<=t.w/\t.w<=2048:=fun t ht=>by
  obtain ⟨r,hr,rfl⟩:=List.mem_map.1 ht;exact h r ((ZaR c 16 r).1 hr).1
 have hs:=Zuo _ (fun t ht=>(hb t ht).2);rw [List.length_map] at hs;refine ⟨by rw [List.length_map];exact hl,fun t ht=>(hb t ht).1,by omega,fun i=>⟨by omega,by rw [List.length_map];omega⟩⟩
end Cd
theorem ZbZ {ops:Array Oper} {rest:List Oper} {o:Oper} {a:Act} {w:World} {Q:Exit->Act->World->Prop} (hg:o.guard=none) (x:Operand) (ho:o.op=.build 205 #[(1,x)]) (c:Int) (hx:a.eval x=.int .i64 c)
 (h:wpList Tryz.prog ops Q rest (a.put o.dst (.agg (trc ⟨fun _=>false,c⟩))) w):wpList Tryz.prog ops Q (o :: rest) a w:=by
 have hb:Tryz.prog.built 205 [(1,.int .i64 c)]=some (trc ⟨fun _=>false,c⟩):=by kernel_rfl
 have he:((#[(1,x)]:Array (Nat × Operand)).map fun (i,x)=>(i,a.eval x)).toList=[(1,.int .i64 c)]:=by
  simp only [List.map_toArray,List.map_cons,List.map_nil,hx]
 refine wpList_build hg 205 _ ho ?_ ?_
 ·rw [he,hb];rfl
 ·rw [he,hb];exact h
def Tr.set (t:Tr) (k:Nat) (b:Bool):Tr:=⟨fun j=>if j=k then b else t.h j,t.w⟩
theorem ZoN (t:Tr) (k:Nat) (hk:k<16) (b:Bool):(trc t).setIfInBounds k (.bool b)=trc (t.set k b):=by
 apply Array.ext_getElem?;intro i;rw [Array.getElem?_setIfInBounds,Zam];by_cases hi:i<16
 ·rw [ZsB _ i hi,ZsB _ i hi];by_cases e:k=i
  ·subst e;rw [if_pos rfl,if_pos (by omega)];simp [Tr.set]
  ·rw [if_neg e];have e':¬ i=k:=fun h=>e h.symm
   simp [Tr.set,e']
 ·rw [if_neg (by omega)];by_cases h16:i=16
  ·subst h16;rw [ZtH,ZtH];rfl
  ·rw [Array.getElem?_eq_none (by rw [Zam];omega),Array.getElem?_eq_none (by rw [Zam];omega)]
theorem TrAt.set {w:World} {g:Nat} {t:Tr} (H:TrAt w g t) (k:Nat) (hk:k<16) (b:Bool):TrAt (w.setCell ⟨g,k,none⟩ (.bool b)) g (t.set k b):=by
 refine ⟨by have:=H.1;simpa [World.setCell] using this,?_⟩;rw [Zda H.2,ZoN t k hk]
theorem TrAt.setFar {w:World} {g:Nat} {t:Tr} (H:TrAt w g t) {q:Nat} (hq:q ≠ g) (k:Nat) (v:Value):TrAt (w.setCell ⟨q,k,none⟩ v) g t:=by
 refine ⟨by have:=H.1;simpa [World.setCell] using this,?_⟩;rw [ZcW hq];exact H.2
theorem TrAt.congr {w:World} {g:Nat} {s t:Tr} (H:TrAt w g s) (h:∀ i,i<16->s.h i=t.h i) (hw:s.w=t.w):TrAt w g t:=⟨H.1,by rw [H.2,Zhs h hw]⟩
theorem RowAt.block {w w':World} {g:Nat} {f:Nat->Int} (H:RowAt w g f) (he:w'.heap[g]?=w.heap[g]?):RowAt w' g f:=by
 have h2:=he.trans H.2;exact ⟨(aG.1 h2).1,h2⟩
theorem Zbi {w:World} {base g k:Nat} {x:Value} {t:TypeId} {sz n:Nat} {v:Value} {cs:List Value} (ho:w.ownsRow base t sz v n cs) (hne:v.ownBlock ≠ some g):(w.setCell ⟨g,k,none⟩ x).ownsRow base t sz v n cs:=by
 refine ⟨ho.1,?_⟩;rcases ho.2 with h0 | ⟨q,cap,cur,rfl,e1,e2,e3⟩
 ·exact .inl h0
 ·refine .inr ⟨q,cap,cur,rfl,e1,?_,e3⟩;rw [ZcW (fun e=>hne (by rw [e];rfl))];exact e2
theorem Zfz {a b:Nat->Bool} {k j:Nat} {x:Bool} {W:Int} (h:x=(a k || b k)):(Tr.set ⟨fun j=>decide (j<k) && (a j || b j),W⟩ k x).h j=(decide (j<k+1) && (a j || b j)):=by
 simp only [Tr.set];by_cases e:j=k
 ·subst e;rw [if_pos rfl,h];simp
 ·rw [if_neg e];by_cases h1:j<k
  ·simp [h1,show j<k+1 by omega]
  ·simp [h1,show ¬ j<k+1 by omega]
theorem ZjL {ta tb:Tr} {L:Nat->Int} {k j:Nat} (h:(ta.h k || tb.h k)=true):upd (fun j=>if j<k then Cd.incr (Cd.mrg ta tb) L j else L j) k (L k+1) j=if j<k+1 then Cd.incr (Cd.mrg ta tb) L j else L j:=by
 unfold upd;by_cases e:j=k
 ·subst e;rw [if_pos rfl,if_pos (by omega),Cd.incr,if_pos (by simpa [Cd.mrg] using h)]
 ·rw [if_neg e];simp only;by_cases h1:j<k
  ·rw [if_pos h1,if_pos (by omega)]
  ·rw [if_neg h1,if_neg (by omega)]
theorem Zty {ta tb:Tr} {L:Nat->Int} {k j:Nat} (h:(ta.h k || tb.h k)=false):(if j<k then Cd.incr (Cd.mrg ta tb) L j else L j)=if j<k+1 then Cd.incr (Cd.mrg ta tb) L j else L j:=by
 by_cases e:j=k
 ·subst e;rw [if_neg (by omega),if_pos (by omega),Cd.incr,if_neg (by simp only [Cd.mrg,h];simp)]
 ·by_cases h1:j<k
  ·rw [if_pos h1,if_pos (by omega)]
  ·rw [if_neg h1,if_neg (by omega)]
theorem ZkW {w:World} {N:Nat} (h:w.heap.size=N) (c c':Array Value) (t:TypeId):(w.alloc (.cells c t)).setRow N c'=w.alloc (.cells c' t):=by subst h;exact World.setRow_alloc_new w c c' t
theorem Zqz {w:World} {N:Nat} (h:w.heap.size=N) (o:Obj):(w.alloc o).heap[N]?=some o:=by subst h;exact heap_alloc_last w o
theorem TrAt.newN {w:World} {N:Nat} (h:w.heap.size=N) (t:Tr):TrAt (w.alloc (.cells (trc t) 205)) N t:=by subst h;exact TrAt.new w t
theorem Zgx {w:World} {base:Nat} {t:TypeId} {sz n:Nat} {v:Value} {cs:List Value} (ho:w.ownsRow base t sz v n cs):∃ ad cap,v=.slice ad n cap:=by
 rcases ho.2 with ⟨h,h0⟩ | ⟨q,cap,cur,h,_⟩
 ·exact ⟨none,0,by rw [h,h0]⟩
 ·exact ⟨_,cap,h⟩
theorem Zpb {w:World} {base base':Nat} {t:TypeId} {sz n:Nat} {v:Value} {cs:List Value} (ho:w.ownsRow base' t sz v n cs) (h:base<=base'):w.ownsRow base t sz v n cs:=by
 refine ⟨ho.1,?_⟩;rcases ho.2 with h0 | ⟨q,cap,cur,rfl,e1,e2,e3⟩
 ·exact .inl h0
 ·exact .inr ⟨q,cap,cur,rfl,by omega,e2,e3⟩
theorem ZfD (c:Nat->Int) (w:World) (h1:¬ Cd.InR c 2048 16) :
 Calls Tryz.prog 166 #[.agg (arr c)] w fun e w'=>e=.returned (.tuple #[.agg (arr (fun _=>0)),.int .i64 3])/\Below w.heap.size w w':=by
 have hcn:=fun w=>Zcd c w
 rw [decide_eq_false h1] at hcn;have hin:=Zc c;have hz:=Zc (fun _=>0);obtain ⟨R1,R2,R4,HB⟩:=Zop w c (fun _=>0);rw [<-Zm] at R1 R2 R4 HB;clear h1;go_enter Tryz.func166,Tryz.ntmps166
 go_wp2_with (refine wpList_load_row rfl 127 _ rfl w.heap.size rfl 127 (arr c) (0,0) _ R1.2 U127 rfl hin ?_)
 refine (hcn _).mono ?_;rintro e w1 ⟨rfl,G1⟩;have S2:=R2.below G1;have S4:=R4.below G1;have B1:=bch HB G1 (nl _);clear R1 R2 R4 HB G1 hcn;go_wp2_with (first | refine wpList_load_row rfl 127 _ rfl (w.heap.size+1+1) rfl 127 (arr fun _=>0) (0,0) _ S4.2 U127 rfl hz ?_ | refine wpList_store_row rfl 127 _ _ rfl (w.heap.size+1) (arr fun _=>0) rfl rfl 127 _ S2.2 hz rfl (ZW _) ?_)
 have U2:=S2.setRow (fun _=>0);exact bodyPost_ret (v:=.tuple #[.agg (arr fun _=>0),.int .i64 3]) (ZM Tryz.results166 _ _ (w.heap.size+1) 127 _ (0,0) _ rfl U2.2 U127 rfl hz _ rfl) rfl ⟨rfl,Zq B1 (Nat.le_succ _) _⟩
theorem ZkH (c:Nat->Int) (w:World) (h1:Cd.InR c 2048 16) :
 Calls Tryz.prog 166 #[.agg (arr c)] w fun e w'=>e=.returned (.tuple #[.agg (arr (Cd.bld c).1),.int .i64 (Cd.bld c).2])/\Below w.heap.size w w':=by
 have hcn:=fun w=>Zcd c w
 rw [decide_eq_true h1] at hcn;have hin:=Zc c;have hz:=Zc (fun _=>0);have HR:Hid (Cd.InR c 2048 16):=h1
 obtain ⟨r1,r2,hr⟩:∃ r1 r2,Cd.bld c=(r1,r2):=⟨_,_,rfl⟩
 rw [hr];have Hr:Hid (Cd.bld c=(r1,r2)):=hr;obtain ⟨R1,R2,R4,HB⟩:=Zop w c (fun _=>0);rw [<-Zm] at R1 R2 R4 HB;clear h1 hr;go_enter Tryz.func166,Tryz.ntmps166
 go_wp2_with (refine wpList_load_row rfl 127 _ rfl w.heap.size rfl 127 (arr c) (0,0) _ R1.2 U127 rfl hin ?_)
 refine (hcn _).mono ?_;rintro e w1 ⟨rfl,G1⟩;have S1:=R1.below G1;have S2:=R2.below G1;have S4:=R4.below G1;have B1:=bch HB G1 (nl _);clear R1 R2 R4 HB G1 hcn;have hq:Hid (w.heap.size<w.heap.size+1/\w.heap.size+1<w.heap.size+1+1):=by show _/\_;omega
 generalize w.heap.size+1+1=g4 at *;generalize w.heap.size+1=g2 at *;go_wp2_with fail
 go_loopw [5,6] (fun v i wr=>∃ k:Nat,k<=16/\i=.int .i64 k/\wr.ownsRow (g4+1) 205 17 v ((Cd.in0 c k).map (Cd.tof c fun i=>i)).length (flat ((Cd.in0 c k).map (Cd.tof c fun i=>i)))/\RowAt wr w.heap.size c/\RowAt wr g2 (fun _=>0)/\RowAt wr g4 (fun _=>0)/\Below w.heap.size w wr) (fun _ i _=>20 - (intOf i).toNat)
 case atStart=>exact ⟨0,by omega,rfl,World.ownsRow_nil _ _ _ _,S1,S2,S4,B1⟩
 case round =>
  clear S1 S2 S4 B1;obtain ⟨k,hk,rfl,ho,S1,S2,S4,B1⟩:=hrel;have hl0:=Cd.Zot c k;by_cases hlt:k<16
  ·have hk1:decide ((k:Int)<16)=true:=by simp;omega
   have hk2:decide (k<16)=true:=by simp;omega
   have hk3:(k:Int)<16:=by omega
   have c1:=S1.cell k hlt;by_cases hc:0<c k
   ·have d1:decide (0<c k)=true:=by simpa using hc
    have HE:Hid ((Cd.in0 c (k+1)).map (Cd.tof c fun i=>i)=(Cd.in0 c k).map (Cd.tof c fun i=>i)++[Cd.tof c (fun i=>i) k]):=by show _=_;rw [Cd.in0,if_pos hc,List.map_append];rfl
    have hll:((Cd.in0 c k).map (Cd.tof c fun i=>i)).length<=16:=by rw [List.length_map];omega
    have HT:Hid (trc (Tr.set ⟨fun _=>false,c k⟩ k true)=trc (Cd.tof c (fun i=>i) k)):=Zhs (fun i _=>by
     simp only [Tr.set,Cd.tof];by_cases e:i=k
     ·subst e;simp
     ·have:¬ (i:Int)=(k:Int):=by omega
      simp [e,this]) rfl
    have T1:=TrAt.new wr ⟨fun _=>false,c k⟩;have hi1:=ZU ⟨fun _=>false,c k⟩;have hi2:=ZU (Tr.set ⟨fun _=>false,c k⟩ k true);have hoA:=fun o=>ho.alloc o
    have hA:∀ o,Below w.heap.size w (wr.alloc o):=fun o=>B1.alloc B1.size o
    have cT:=T1.cellh k hlt;have fT:=T1.frozen k;clear T1;generalize (Cd.in0 c k).map (Cd.tof c fun i=>i)=l at *;generalize c k=ck at *;have T2:Hid ((wr.alloc (.cells ((trc ⟨fun _=>false,ck⟩).setIfInBounds k (.bool true)) 205)).heap[wr.heap.size]?=some (.cells (trc (Tr.set ⟨fun _=>false,ck⟩ k true)) 205 (0,0))):=by show _=_;rw [ZoN _ _ hlt];exact heap_alloc_last wr _
    have hg4:g4<wr.heap.size:=S4.1;go_wp2_with (first | refine wpList_load_row rfl 205 _ rfl wr.heap.size rfl 205 (trc (Tr.set ⟨fun _=>false,ck⟩ k true)) (0,0) _ T2.out U205 rfl hi2 ?_ | refine Zaw rfl _ rfl (Tr.set ⟨fun _=>false,ck⟩ k true) rfl ?_ | (at_builtin;go_must (refine Zas rfl _ _ rfl (g4+1) _ l rfl (hoA _) (Tr.set ⟨fun _=>false,ck⟩ k true) rfl (by omega) (by simp;omega) ?_;intro v' w6 hown' hgrow)) | refine ZbZ rfl _ rfl ck rfl ?_ | (refine wpList_store_row rfl 205 _ _ rfl wr.heap.size (trc ⟨fun _=>false,ck⟩) rfl rfl 205 _ (heap_alloc_last wr _) hi1 rfl (Zdl _) ?_;rw [World.setRow_alloc_new]))
    have hne:∀ q,q<=g4->some q ≠ Value.ownBlock u5:=fun q hq9 e=>by have:=(ho.lt q e.symm).1;omega
    have hqq:=hq.out;have bg:=fun q (h:q<=g4)=>ZaT (w:=wr.alloc (.cells ((trc ⟨fun _=>false,ck⟩).setIfInBounds k (.bool true)) 205)) (g:=q) (by simp;omega) (hne q h) hgrow
    have U1:=(S1.alloc (.cells ((trc ⟨fun _=>false,ck⟩).setIfInBounds k (.bool true)) 205)).block (bg _ (by omega));have U2:=(S2.alloc (.cells ((trc ⟨fun _=>false,ck⟩).setIfInBounds k (.bool true)) 205)).block (bg _ (by omega));have U4:=(S4.alloc (.cells ((trc ⟨fun _=>false,ck⟩).setIfInBounds k (.bool true)) 205)).block (bg _ (nl _));have B6:Below w.heap.size w w6:=((hA _).alloc (hA _).size _).grown hgrow (by have:=B1.size;simp;omega) (fun j hj=>by have:=(ho.lt j hj).1;omega);refine ⟨⟨k+1,by omega,by go_num,?_,U1,U2,U4,B6⟩,by simp [intOf];omega⟩;rw [HE.out,ZbS,ZdU,<-HT.out,<-ZdU,<-ZbS,List.length_append];rw [List.length_append] at hown';exact hown'
   ·have d1:decide (0<c k)=false:=by simpa using hc
    have HE:Hid (Cd.in0 c (k+1)=Cd.in0 c k):=by show _=_;rw [Cd.in0,if_neg hc]
    clear hc;generalize c k=ck at *;go_wp2_with fail
    exact ⟨⟨k+1,by omega,by go_num,by rw [HE.out];exact ho,S1,S2,S4,B1⟩,by simp [intOf];omega⟩
  ·obtain rfl:k=16:=by omega
   obtain ⟨q0,q1,q2⟩:=Cd.Zoq HR.out;have HF:Hid (Cd.Fine ((Cd.in0 c 16).map (Cd.tof c fun i=>i)) (fun _=>0)):=Cd.Zva HR.out;have hl1:=ho.1;rw [ZdX] at hl1;clear S1 hl0 hin;rcases hcs:Cd.in0 c 16 with _ | ⟨r,_ | ⟨r',rr⟩⟩
   ·have h8:=Hr.out.symm.trans (q0 hcs);simp only [Prod.mk.injEq] at h8;obtain ⟨rfl,rfl⟩:=h8;rw [hcs] at ho;obtain ⟨ad,cap,hv⟩:=Zgx ho;subst hv;clear hcs q0 q1 q2 hl1 HF;go_wp2_with (first | refine wpList_load_row rfl 127 _ rfl g4 rfl 127 (arr fun _=>0) (0,0) _ S4.2 U127 rfl hz ?_ | refine wpList_store_row rfl 127 _ _ rfl g2 (arr fun _=>0) rfl rfl 127 _ S2.2 hz rfl (ZW _) ?_)
    have U2:=S2.setRow (fun _=>0);exact bodyPost_ret (v:=.tuple #[.agg (arr fun _=>0),.int .i64 5]) (ZM Tryz.results166 _ _ g2 127 _ (0,0) _ rfl U2.2 U127 rfl hz _ rfl) rfl ⟨rfl,Zq B1 (nL hq.out.1) _⟩
   ·have h8:=Hr.out.symm.trans (q1 r hcs);simp only [Prod.mk.injEq] at h8;obtain ⟨rfl,rfl⟩:=h8;have hr16:=((Cd.ZaR c 16 r).1 (by rw [hcs];simp)).1;have hlsr:=(Cd.ZjZ (c:=c) (fun i hi=>(HR.out i hi).1)).ls (r:=r) (by rw [hcs];simp);rw [hcs] at ho;obtain ⟨g,cap,hv,hg,hgl,hrg⟩:=ZeZ ho (by simp);subst hv;have rt:=Zbf hrg (i:=0) (by simp);have hls:=fun w=>Zbp (Cd.tof c (fun i=>i) r) w
    rw [hlsr] at hls;have htl:tl (List.map (Cd.tof c fun i=>i) [r]) 0=Cd.tof c (fun i=>i) r:=rfl;rw [htl] at rt;have hi1:=Zc (upd (fun _=>0) r 1);generalize Cd.tof c (fun i=>i) r=t at *;have hrI:(r:Int)<16:=by omega
    clear hcs q0 q1 q2 hl1 HF hlsr htl;go_wp2_with (first | refine ZaG rfl _ rfl g (0*17) rfl t rt ?_)
    refine (hls _).mono ?_;rintro e w2 ⟨rfl,G2⟩;have V2:=S2.below G2;have V4:=S4.below G2;have B2:=bch B1 G2 (nl _);have c4:=V4.cell r hr16;have f4:=V4.frozen r;have X4:=V4.set r 1;have X2:=V2.setFar (q:=g4) (by have:=hq.out;omega) r (.int .i64 1);have B3:=B2.setCell (p:=⟨g4,r,none⟩) (by have:=hq.out;show _<=g4;omega) (.int .i64 1);clear S2 S4 B1 G2 V2 V4 B2;go_wp2_with (first | refine wpList_load_row rfl 127 _ rfl g4 rfl 127 (arr (upd (fun _=>0) r 1)) (0,0) _ X4.2 U127 rfl hi1 ?_ | refine wpList_store_row rfl 127 _ _ rfl g2 (arr (upd (fun _=>0) r 1)) rfl rfl 127 _ X2.2 hi1 (by rw [Zi,Zi]) (ZW _) ?_)
    have U2:=X2.setRow (upd (fun _=>0) r 1);exact bodyPost_ret (v:=.tuple #[.agg (arr (upd (fun _=>0) r 1)),.int .i64 0]) (ZM Tryz.results166 _ _ g2 127 _ (0,0) _ rfl U2.2 U127 rfl hi1 _ rfl) rfl ⟨rfl,Zq B3 (nL hq.out.1) _⟩
   ·have h8:=Hr.out.symm.trans (q2 (by rw [hcs];simp));simp only [Prod.mk.injEq] at h8;obtain ⟨h8,rfl⟩:=h8;have HBo:Hid (Cd.boR 16 ((Cd.in0 c 16).map (Cd.tof c fun i=>i)) (fun _=>0)=r1):=h8.symm;have hlen2:2<=((Cd.in0 c 16).map (Cd.tof c fun i=>i)).length:=by rw [List.length_map,hcs];simp
    have hlen16:=HF.out.len;clear hcs q0 q1 q2 hl1 h8;generalize (Cd.in0 c 16).map (Cd.tof c fun i=>i)=l0 at *;obtain ⟨ad,cap,hv⟩:=Zgx ho;subst hv;have e0:((l0.length:Int) == 0)=false:=by rw [beq_eq_false_iff_ne];omega
    have e1:((l0.length:Int) == 1)=false:=by rw [beq_eq_false_iff_ne];omega
    go_wp2_with fail
    clear e0 e1;have Hlen16:Hid (l0.length<=16):=hlen16;go_loopg [5] 16 (fun n v wr=>∃ (l:List Tr) (L:Nat->Int),wr.ownsRow (g4+1) 205 17 v l.length (flat l)/\RowAt wr g2 (fun _=>0)/\RowAt wr g4 L/\Below w.heap.size w wr/\Hid (Cd.Fine l L/\l.length<=n/\Cd.boR n l L=r1))
    case atStart=>exact ⟨l0,fun _=>0,ho,S2,S4,B1,HF.out,Hlen16.out,HBo.out⟩
    case round =>
     clear ho S2 S4 B1 HF HBo Hlen16 hlen2 hlen16;obtain ⟨l,L,ho,S2,S4,B1,HH⟩:=hrel;by_cases hl:l.length<=1
     ·have hL:L=r1:=by
       have:=HH.out.2.2
       cases gk with
       | zero=>rwa [Cd.boR] at this
       | succ n=>rwa [Cd.boR,if_pos hl] at this
      subst hL;obtain ⟨ad,cap,hv⟩:=Zgx ho;subst hv;have d1:decide ((1:Int)<(l.length:Int))=false:=by simp;omega
      have d1':decide (1<l.length)=false:=by simp;omega
      have hi1:=Zc L;clear hl HH;go_wp2_with (first | refine wpList_load_row rfl 127 _ rfl g4 rfl 127 (arr L) (0,0) _ S4.2 U127 rfl hi1 ?_ | refine wpList_store_row rfl 127 _ _ rfl g2 (arr L) rfl rfl 127 _ S2.2 hi1 (by rw [Zi,Zi]) (ZW _) ?_)
      have U2:=S2.setRow L;exact bodyPost_ret (v:=.tuple #[.agg (arr L),.int .i64 0]) (ZM Tryz.results166 _ _ g2 127 _ (0,0) _ rfl U2.2 U127 rfl hi1 _ rfl) rfl ⟨rfl,Zq B1 (nL hq.out.1) _⟩
     ·obtain ⟨f1,f2,f3,f4,f5,F6⟩:=HH.out.1.two (by omega);have hl16:=HH.out.1.len
      obtain ⟨n,hn⟩:∃ n,gk=n+1:=⟨gk - 1,by have:=HH.out.2.1;omega⟩
      subst hn
      have HBo:Hid (Cd.boR n (Cd.oth (Cd.oth l)++[Cd.mrg (Cd.fst l) (Cd.fst (Cd.oth l))]) (Cd.incr (Cd.mrg (Cd.fst l) (Cd.fst (Cd.oth l))) L)=r1):=by
       have:=HH.out.2.2
       rwa [Cd.boR,if_neg hl] at this
      have HF6:Hid (Cd.Fine (Cd.oth (Cd.oth l)++[Cd.mrg (Cd.fst l) (Cd.fst (Cd.oth l))]) (Cd.incr (Cd.mrg (Cd.fst l) (Cd.fst (Cd.oth l))) L)):=F6
      have HLn:Hid ((Cd.oth (Cd.oth l)++[Cd.mrg (Cd.fst l) (Cd.fst (Cd.oth l))]).length<=n):=by
       have:=HH.out.2.1;show _<=_;rw [List.length_append,List.length_singleton];omega
      have HLow:Hid (∀ i,0<=L i/\L i<=16):=fun i=>by have:=HH.out.1.low i;omega
      obtain ⟨g,cap,hv,hg,hgl,hrg⟩:=ZeZ ho (by intro e;rw [e] at hl;simp at hl);subst hv;have d1:decide ((1:Int)<(l.length:Int))=true:=by simp;omega
      have d1':decide (1<l.length)=true:=by simp;omega
      have t1:Calls Tryz.prog 186 #[.slice (some ⟨g,0,none⟩) l.length cap] wr fun e w'=>∃ v,e=.returned (.tuple #[.agg (trc (Cd.fst l)),v])/\Below wr.heap.size wr w'/\w'.ownsRow wr.heap.size 205 17 v (Cd.oth l).length (flat (Cd.oth l)):=Zcw l g cap wr (by omega) hl16 hgl hrg
      have t2:∀ g cap w,g<w.heap.size->w.rangeAt g 0 (flat (Cd.oth l))->Calls Tryz.prog 186 #[.slice (some ⟨g,0,none⟩) (Cd.oth l).length cap] w fun e w'=>∃ v,e=.returned (.tuple #[.agg (trc (Cd.fst (Cd.oth l))),v])/\Below w.heap.size w w'/\w'.ownsRow w.heap.size 205 17 v (Cd.oth (Cd.oth l)).length (flat (Cd.oth (Cd.oth l))):=fun g cap w h1 h2=>Zcw (Cd.oth l) g cap w (by omega) (by omega) h1 h2
      have hne1:Hid (Cd.oth l ≠ []):=by intro e;rw [e] at f4;simp at f4;omega
      have Hq4:Hid ((Cd.oth (Cd.oth l)).length<=16):=by show _<=_;omega
      generalize Cd.oth (Cd.oth l)=l2 at *;generalize Cd.fst (Cd.oth l)=tb at *;generalize Cd.oth l=l1 at *;generalize Cd.fst l=ta at *;clear HH F6 hl f4 f5 ho hrg hg;go_wp2_with fail
      refine t1.mono ?_;rintro e w2 ⟨v1,rfl,G2,O2⟩;have V2:=S2.below G2;have V4:=S4.below G2;have B2:=bch B1 G2 (nl _);obtain ⟨g1,cap1,hv,hg1,hg1l,hrg1⟩:=ZeZ O2 hne1.out;subst hv;have hia:=ZU ta;have X2:=V2.alloc (.cells (trc ta) 205);have X4:=V4.alloc (.cells (trc ta) 205);have A1:=TrAt.new w2 ta;have B3:Below w.heap.size w (w2.alloc (.cells (trc ta) 205)):=B2.alloc B2.size _;have hrg2:=Zch hrg1 ((bR w2.heap.size w2).alloc (nl _) (.cells (trc ta) 205)) hg1l;have hw2s:w2.heap.size+1=(w2.alloc (.cells (trc ta) 205)).heap.size:=by simp
      have HS2:Hid (g4<w2.heap.size/\w2.heap.size<(w2.alloc (.cells (trc ta) 205)).heap.size/\g1<(w2.alloc (.cells (trc ta) 205)).heap.size):=by have:=V4.1;show _/\_/\_;omega
      clear t1 S2 S4 B1 G2 V2 V4 B2 O2 hrg1 hg1 hg1l hgl hw2s;go_wp2_with (refine wpList_store_row rfl 205 _ _ rfl w2.heap.size (trc ta) rfl rfl 205 _ (heap_alloc_last w2 _) hia rfl (Zdl _) ?_;rw [World.setRow_alloc_new])
      generalize w2.alloc (.cells (trc ta) 205)=wa at *;generalize w2.heap.size=ga at *;refine (t2 _ _ _ HS2.out.2.2 hrg2).mono ?_;rintro e w3 ⟨v2,rfl,G3,O3⟩;have Y2:=X2.below G3;have Y4:=X4.below G3;have A2:=A1.below G3;have B4:=bch B3 G3 (nl _)
      have HS3:Hid (g4<ga/\ga<w3.heap.size/\(∀ q,v2.ownBlock=some q->ga<q/\q<w3.heap.size)):=by
       refine ⟨HS2.out.1,A2.1,fun q e=>?_⟩;have h1:=O3.lt q e;have h2:=HS2.out.2.1;exact ⟨by omega,h1.2⟩
      have hs1:(w3.alloc (.cells (trc tb) 205)).heap.size=w3.heap.size+1:=by simp
      have hib:=ZU tb;have hit:=ZU ⟨fun _=>false,ta.w+tb.w⟩;have ca:=(A2.alloc (.cells (trc tb) 205)).cellw;have cb:=(TrAt.new w3 tb).cellw;have Z2:=(Y2.alloc (.cells (trc tb) 205)).alloc (.cells (trc ⟨fun _=>false,ta.w+tb.w⟩) 205);have Z4:=(Y4.alloc (.cells (trc tb) 205)).alloc (.cells (trc ⟨fun _=>false,ta.w+tb.w⟩) 205);have ZA:=(A2.alloc (.cells (trc tb) 205)).alloc (.cells (trc ⟨fun _=>false,ta.w+tb.w⟩) 205);have ZB:=(TrAt.new w3 tb).alloc (.cells (trc ⟨fun _=>false,ta.w+tb.w⟩) 205);have ZT:=TrAt.newN (w:=(w3.alloc (.cells (trc tb) 205))) hs1 ⟨fun _=>false,ta.w+tb.w⟩;have ZO:=Zpb (base:=g4+1) ((O3.alloc (.cells (trc tb) 205)).alloc (.cells (trc ⟨fun _=>false,ta.w+tb.w⟩) 205)) (by have:=HS2.out;omega);have B5:Below w.heap.size w ((w3.alloc (.cells (trc tb) 205)).alloc (.cells (trc ⟨fun _=>false,ta.w+tb.w⟩) 205)):=(B4.alloc B4.size _).alloc (by have:=B4.size;simp;omega) _;have Hs1:Hid ((w3.alloc (.cells (trc tb) 205)).heap.size=w3.heap.size+1):=hs1;clear hs1 X2 X4 A1 B3 t2 hrg2 G3 O3 Y2 Y4 A2 B4;go_wp2_with (first | (refine wpList_store_row rfl 205 _ _ rfl w3.heap.size (trc tb) rfl rfl 205 _ (heap_alloc_last w3 _) hib rfl (Zdl _) ?_;rw [World.setRow_alloc_new]) | refine ZbZ rfl _ rfl (ta.w+tb.w) rfl ?_ | (refine wpList_store_row rfl 205 _ _ rfl (w3.heap.size+1) (trc ⟨fun _=>false,ta.w+tb.w⟩) rfl rfl 205 _ (Zqz Hs1.out _) hit rfl (Zdl _) ?_;rw [ZkW Hs1.out]))
      generalize ((w3.alloc (.cells (trc tb) 205)).alloc (.cells (trc ⟨fun _=>false,ta.w+tb.w⟩) 205))=wc at *
      have HG:Hid (g4<ga/\ga<w3.heap.size/\w3.heap.size<w3.heap.size+1/\(∀ q,v2.ownBlock=some q->ga<q/\q<w3.heap.size)):=⟨HS3.out.1,HS3.out.2.1,by omega,HS3.out.2.2⟩
      generalize w3.heap.size+1=gt at *;generalize w3.heap.size=gb at *;clear ca cb HS3 HS2 hne1 Hs1 hib hit hia d1 d1';have ZT0:=ZT.congr (t:=⟨fun j=>decide (j<0) && (ta.h j || tb.h j),ta.w+tb.w⟩) (fun j _=>by simp) rfl;have Z40:=Z4.congr (f':=fun j=>if j<0 then Cd.incr (Cd.mrg ta tb) L j else L j) (fun j _=>by simp);go_loopw [12] (fun i wr=>∃ k:Nat,k<=16/\i=.int .i64 k/\TrAt wr ga ta/\TrAt wr gb tb/\TrAt wr gt ⟨fun j=>decide (j<k) && (ta.h j || tb.h j),ta.w+tb.w⟩/\RowAt wr g4 (fun j=>if j<k then Cd.incr (Cd.mrg ta tb) L j else L j)/\RowAt wr g2 (fun _=>0)/\wr.ownsRow (g4+1) 205 17 v2 l2.length (flat l2)/\Below w.heap.size w wr) (fun i _=>16 - (intOf i).toNat)
      case atStart=>exact ⟨0,by omega,rfl,ZA,ZB,ZT0,Z40,Z2,ZO,B5⟩
      case round =>
       clear ZA ZB ZT ZT0 Z4 Z40 Z2 ZO B5;obtain ⟨k,hk,rfl,TA,TB,TT,S4,S2,hO,Bl⟩:=hrel;by_cases hlt:k<16
       ·have hk1:decide ((k:Int)<16)=true:=by simp;omega
        have hk2:decide (k<16)=true:=by simp;omega
        have hk3:(k:Int)<16:=by omega
        have ca:=TA.cellh k hlt;have cb:=TB.cellh k hlt;have ct:=TT.cellh k hlt;have ft:=TT.frozen k
        cases ha:ta.h k with
        | true =>
         have hm:(ta.h k || tb.h k)=true:=by rw [ha];rfl
         rw [ha] at ca;clear ha;have cg:(wr.setCell ⟨gt,k,none⟩ (.bool true)).cell? ⟨g4,k,none⟩=some (.int .i64 (L k)):=by rw [(S4.setFar (q:=gt) (by have:=HG.out;omega) k (.bool true)).cell k hlt];simp
         have fg:=(S4.setFar (q:=gt) (by have:=HG.out;omega) k (.bool true)).frozen k;have HLk:=HLow.out k;have hL0:0<=L k:=HLk.1;have hL1:L k<=16:=HLk.2;have P2:=(S2.setFar (q:=gt) (by have:=HG.out;have:=hq.out;omega) k (.bool true)).setFar (q:=g4) (by have:=hq.out;omega) k (.int .i64 (L k+1));have P4:=((S4.setFar (q:=gt) (by have:=HG.out;omega) k (.bool true)).set k (L k+1)).congr (f':=fun j=>if j<k+1 then Cd.incr (Cd.mrg ta tb) L j else L j) (fun j _=>ZjL hm);have PA:=(TA.setFar (q:=gt) (by have:=HG.out;omega) k (.bool true)).setFar (q:=g4) (by have:=HG.out;omega) k (.int .i64 (L k+1));have PB:=(TB.setFar (q:=gt) (by have:=HG.out;omega) k (.bool true)).setFar (q:=g4) (by have:=HG.out;omega) k (.int .i64 (L k+1));have PT:=((TT.set k hlt true).setFar (q:=g4) (by have:=HG.out;omega) k (.int .i64 (L k+1))).congr (t:=⟨fun j=>decide (j<k+1) && (ta.h j || tb.h j),ta.w+tb.w⟩) (fun j _=>Zfz hm.symm) rfl;have PO:=Zbi (k:=k) (x:=.int .i64 (L k+1)) (Zbi (g:=gt) (k:=k) (x:=.bool true) hO (fun e=>by have:=HG.out.2.2.2 _ e;have:=HG.out;omega)) (g:=g4) (fun e=>by have:=HG.out.2.2.2 _ e;have:=HG.out;omega);have PB1:=(Bl.setCell (p:=⟨gt,k,none⟩) (by have:=HG.out;have:=hq.out;show _<=gt;omega) (.bool true)).setCell (p:=⟨g4,k,none⟩) (by have:=hq.out;show _<=g4;omega) (.int .i64 (L k+1));clear TA TB TT S2 S4 hO Bl hm;generalize L k=Lk at *;go_wp2_with fail
         go_roundw
         case rel=>exact ⟨k+1,by omega,by go_num,PA,PB,PT,P4,P2,PO,PB1⟩
         case measure=>simp [intOf];omega
        | false =>
         cases hb:tb.h k with
         | true =>
          have hm:(ta.h k || tb.h k)=true:=by rw [hb];simp
          rw [ha] at ca;rw [hb] at cb;clear ha hb;have cg:(wr.setCell ⟨gt,k,none⟩ (.bool true)).cell? ⟨g4,k,none⟩=some (.int .i64 (L k)):=by rw [(S4.setFar (q:=gt) (by have:=HG.out;omega) k (.bool true)).cell k hlt];simp
          have fg:=(S4.setFar (q:=gt) (by have:=HG.out;omega) k (.bool true)).frozen k;have HLk:=HLow.out k;have hL0:0<=L k:=HLk.1;have hL1:L k<=16:=HLk.2;have P2:=(S2.setFar (q:=gt) (by have:=HG.out;have:=hq.out;omega) k (.bool true)).setFar (q:=g4) (by have:=hq.out;omega) k (.int .i64 (L k+1));have P4:=((S4.setFar (q:=gt) (by have:=HG.out;omega) k (.bool true)).set k (L k+1)).congr (f':=fun j=>if j<k+1 then Cd.incr (Cd.mrg ta tb) L j else L j) (fun j _=>ZjL hm);have PA:=(TA.setFar (q:=gt) (by have:=HG.out;omega) k (.bool true)).setFar (q:=g4) (by have:=HG.out;omega) k (.int .i64 (L k+1));have PB:=(TB.setFar (q:=gt) (by have:=HG.out;omega) k (.bool true)).setFar (q:=g4) (by have:=HG.out;omega) k (.int .i64 (L k+1));have PT:=((TT.set k hlt true).setFar (q:=g4) (by have:=HG.out;omega) k (.int .i64 (L k+1))).congr (t:=⟨fun j=>decide (j<k+1) && (ta.h j || tb.h j),ta.w+tb.w⟩) (fun j _=>Zfz hm.symm) rfl;have PO:=Zbi (k:=k) (x:=.int .i64 (L k+1)) (Zbi (g:=gt) (k:=k) (x:=.bool true) hO (fun e=>by have:=HG.out.2.2.2 _ e;have:=HG.out;omega)) (g:=g4) (fun e=>by have:=HG.out.2.2.2 _ e;have:=HG.out;omega);have PB1:=(Bl.setCell (p:=⟨gt,k,none⟩) (by have:=HG.out;have:=hq.out;show _<=gt;omega) (.bool true)).setCell (p:=⟨g4,k,none⟩) (by have:=hq.out;show _<=g4;omega) (.int .i64 (L k+1));clear TA TB TT S2 S4 hO Bl hm;generalize L k=Lk at *;go_wp2_with fail
          go_roundw
          case rel=>exact ⟨k+1,by omega,by go_num,PA,PB,PT,P4,P2,PO,PB1⟩
          case measure=>simp [intOf];omega
         | false =>
          have hm:(ta.h k || tb.h k)=false:=by rw [ha,hb];rfl
          rw [ha] at ca;rw [hb] at cb;have P2:=S2.setFar (q:=gt) (by have:=HG.out;have:=hq.out;omega) k (.bool false);have P4:=(S4.setFar (q:=gt) (by have:=HG.out;omega) k (.bool false)).congr (f':=fun j=>if j<k+1 then Cd.incr (Cd.mrg ta tb) L j else L j) (fun j _=>Zty hm);have PA:=TA.setFar (q:=gt) (by have:=HG.out;omega) k (.bool false);have PB:=TB.setFar (q:=gt) (by have:=HG.out;omega) k (.bool false);have PT:=(TT.set k hlt false).congr (t:=⟨fun j=>decide (j<k+1) && (ta.h j || tb.h j),ta.w+tb.w⟩) (fun j _=>Zfz hm.symm) rfl;have PO:=Zbi (k:=k) (x:=.bool false) hO (g:=gt) (fun e=>by have:=HG.out.2.2.2 _ e;have:=HG.out;omega);have PB1:=Bl.setCell (p:=⟨gt,k,none⟩) (by have:=HG.out;have:=hq.out;show _<=gt;omega) (.bool false);clear TA TB TT S2 S4 hO Bl hm ha hb;go_wp2_with fail
          go_roundw
          case rel=>exact ⟨k+1,by omega,by go_num,PA,PB,PT,P4,P2,PO,PB1⟩
          case measure=>simp [intOf];omega
       ·obtain rfl:k=16:=by omega
        have TM:=TT.congr (t:=Cd.mrg ta tb) (fun j hj=>by simp [Cd.mrg,hj]) rfl;have SM:=S4.congr (f':=Cd.incr (Cd.mrg ta tb) L) (fun j hj=>by rw [if_pos hj]);have him:=ZU (Cd.mrg ta tb);have hg4:g4<wr.heap.size:=S4.1;have hl2:=Hq4.out;generalize Cd.incr (Cd.mrg ta tb) L=L' at *;generalize Cd.mrg ta tb=tm at *;clear TA TB TT S4;go_wp2_with (first | refine wpList_load_row rfl 205 _ rfl gt rfl 205 (trc tm) (0,0) _ TM.2 U205 rfl him ?_ | refine Zaw rfl _ rfl tm rfl ?_ | (at_builtin;go_must (refine Zas rfl _ _ rfl (g4+1) _ l2 rfl hO tm rfl (by omega) (by omega) ?_;intro v' w6 hown' hgrow)))
        have hne:∀ q,q<=g4->some q ≠ Value.ownBlock v2:=fun q hq9 e=>by have:=(hO.lt q e.symm).1;omega
        have U2:=S2.block (ZaT S2.1 (hne _ (nL hq.out.2)) hgrow);have U4:=SM.block (ZaT hg4 (hne _ (nl _)) hgrow);have B6:Below w.heap.size w w6:=(Bl.alloc Bl.size _).grown hgrow (by have:=Bl.size;simp;omega) (fun j hj=>by have:=(hO.lt j hj).1;have:=hq.out;omega);go_roundg n
        case measure=>omega
        case rel=>exact ⟨l2++[tm],L',hown',U2,U4,B6,HF6.out,HLn.out,HBo.out⟩
theorem ZiW (c:Nat->Int) (w:World) :
 Calls Tryz.prog 166 #[.agg (arr c)] w fun e w'=>e=.returned (.tuple #[.agg (arr (Cd.bld c).1),.int .i64 (Cd.bld c).2])/\Below w.heap.size w w':=by
 by_cases h:Cd.InR c 2048 16
 ·exact ZkH c w h
 ·have e:Cd.bld c=(fun _=>0,3):=by rw [Cd.bld,if_pos h]
  rw [e];exact ZfD c w h
set_option linter.unusedVariables false
theorem ZqO (l:List UInt8) (x:Int):(⟨(2 :: l).toArray⟩:ByteArray)++⟨#[UInt8.ofNat x.toNat]⟩=⟨(2 :: (l++[UInt8.ofNat x.toNat])).toArray⟩:=by
 rw [show (⟨#[UInt8.ofNat x.toNat]⟩:ByteArray)=⟨([UInt8.ofNat x.toNat]).toArray⟩ from rfl,Nm.ZdN];rfl
theorem Zpy (L:Nat->Int) (n:ByteArray) (w:ByteArray):(⟨(2 :: Bk.jnK L 8).toArray⟩:ByteArray)++n++w=(⟨#[2]⟩:ByteArray)++((⟨(Bk.jn L).toArray⟩:ByteArray)++n++w):=by
 apply Nm.ZG;simp [Bk.jn]
theorem Zbm (s:ByteArray) (w:World) (hs:s.size<=1024) :
 Calls Tryz.prog 135 #[.string s] w fun e w'=>e=.returned (.string ((⟨#[2]⟩:ByteArray)++Bk.enc s))/\Below w.heap.size w w':=by
 have c1:=fun w=>Zgb s w hs
 have c2:=fun w=>ZiW (Bk.hv s) w
 have c3:=fun w=>ZF s.size (s.size:Int) w (by omega) (by omega) (by omega)
 rw [Int.toNat_natCast] at c3;have c4:=fun w=>Zcx (Cd.bld (Bk.hv s)).1 s w (by omega)
 have HE:Hid ((⟨(2 :: Bk.jnK (Cd.bld (Bk.hv s)).1 8).toArray⟩:ByteArray)++⟨(Nm.nb s.size).toArray⟩++(Cd.wrt (Cd.bld (Bk.hv s)).1 s).1=(⟨#[2]⟩:ByteArray)++Bk.enc s):=Zpy _ _ _
 have z2:(⟨(Nm.nb s.size).toArray⟩:ByteArray).size<=5:=by
  have:=Nm.Zt s.size (by omega);show (Nm.nb s.size).toArray.size<=_;simpa using this
 have z3:=ZjJ (Cd.bld (Bk.hv s)).1 s;have HR:Hid (Cd.InR (Cd.bld (Bk.hv s)).1 15 16):=Bk.ZmO (Bk.ZoF s hs);have hiL:=Zc (Cd.bld (Bk.hv s)).1;have hb0:(s.size:Int)<=1024:=by omega
 generalize (⟨#[2]⟩:ByteArray)++Bk.enc s=R at *;generalize (Cd.wrt (Cd.bld (Bk.hv s)).1 s).1=W at *;generalize (Cd.wrt (Cd.bld (Bk.hv s)).1 s).2=We at *;generalize (⟨(Nm.nb s.size).toArray⟩:ByteArray)=N at *;generalize (Cd.bld (Bk.hv s)).1=f at *;generalize (Cd.bld (Bk.hv s)).2=E at *;generalize Bk.hv s=C at *;go_enter Tryz.func135,Tryz.ntmps135
 go_wp2_with fail
 refine (c1 _).mono ?_;rintro e w1 ⟨rfl,G1⟩;go_wp2_with fail
 refine (c2 _).mono ?_;rintro e w2 ⟨rfl,G2⟩;have B2:=bch G1 G2 (nl _);have L3:=RowAt.new w2 f;have B3:Below w.heap.size w (w2.alloc (.cells (arr f) 127)):=B2.alloc B2.size _;have hgl:w.heap.size<=w2.heap.size:=B2.size;clear G1 G2 B2 c1 c2;go_wp2_with (refine wpList_store_row rfl 127 _ _ rfl w2.heap.size (arr f) rfl rfl 127 _ (heap_alloc_last w2 _) hiL rfl (ZW _) ?_;rw [World.setRow_alloc_new])
 generalize w2.alloc (.cells (arr f) 127)=wa at *;generalize w2.heap.size=gl at *;go_loopw [5,6] (fun v i wr=>∃ k:Nat,k<=8/\i=.int .i64 k/\v=.string ⟨(2 :: Bk.jnK f k).toArray⟩/\RowAt wr gl f/\Below w.heap.size w wr) (fun _ i _=>8 - (intOf i).toNat)
 case atStart=>exact ⟨0,by omega,rfl,rfl,L3,B3⟩
 case round =>
  clear L3 B3;obtain ⟨k,hk,rfl,rfl,R1,B1⟩:=hrel;by_cases hlt:k<8
  ·have hk1:decide ((k:Int)<8)=true:=by simp;omega
   have hk2:decide (k<8)=true:=by simp;omega
   obtain ⟨K2,hK2e⟩:∃ K2,2*k=K2:=⟨_,rfl⟩
   obtain ⟨K3,hK3e⟩:∃ K3,2*k+1=K3:=⟨_,rfl⟩
   have hK2:K2<16:=by omega
   have hK3:K3<16:=by omega
   have m2:2*(k:Int)=(K2:Int):=by omega
   have m3:(K2:Int)+1=(K3:Int):=by omega
   have hK2i:(K2:Int)<16:=by omega
   have hK3i:(K3:Int)<16:=by omega
   have HN:=Bk.ZjV f k;rw [hK3e,hK2e] at HN;have c9:=R1.cell K2 hK2;have c8:=R1.cell K3 hK3;have hx:=HR.out K2 hK2;have hy:=HR.out K3 hK3;have HNN:Hid (Bk.jnK f (k+1)=Bk.jnK f k++[UInt8.ofNat (16*f K2+f K3).toNat]):=by rw [Int.mul_comm];exact HN
   have hlen:(⟨(2 :: Bk.jnK f k).toArray⟩:ByteArray).size<=100:=by
    show (2 :: Bk.jnK f k).toArray.size<=_;simp [Bk.Zdm];omega
   have HS:Hid (∀ x:Int,(⟨(2 :: Bk.jnK f k).toArray⟩:ByteArray)++⟨#[UInt8.ofNat x.toNat]⟩=⟨(2 :: (Bk.jnK f k++[UInt8.ofNat x.toNat])).toArray⟩):=ZqO (Bk.jnK f k);clear HN hK2e hK3e;generalize f K2=x at *;generalize f K3=y at *;generalize hJ:(⟨(2 :: Bk.jnK f k).toArray⟩:ByteArray)=J at *;clear hJ;obtain ⟨hx0,hx1⟩:=hx;obtain ⟨hy0,hy1⟩:=hy;have hcv:=Zbo (16*x+y) (by omega) (by omega);have w1:IntKind.i64.wrap (16*x)=16*x:=IntWalk.i64_in _ ⟨by omega,by omega⟩;have w2:IntKind.i64.wrap (16*x+y)=16*x+y:=IntWalk.i64_in _ ⟨by omega,by omega⟩;have w3:IntKind.u8.wrap (16*x+y)=16*x+y:=IntWalk.u8_in _ ⟨by omega,by omega⟩;have w4:IntKind.i64.wrap (K2:Int)=(K2:Int):=IntWalk.i64_in _ ⟨by omega,by omega⟩;have w5:IntKind.i64.wrap (K3:Int)=(K3:Int):=IntWalk.i64_in _ ⟨by omega,by omega⟩;have hgw:=R1.1;have X1:RowAt (wr.drew.alloc (.cells #[.int .u8 (16*x+y)] 5)) gl f:=(show RowAt wr.drew gl f from R1).alloc _;have X2:Below w.heap.size w (wr.drew.alloc (.cells #[.int .u8 (16*x+y)] 5)):=(show Below w.heap.size w wr.drew from B1.drew).alloc B1.size _;clear R1 B1;go_wp2_with fail
   go_region
   go_wp2_with fail
   go_roundw
   case rel=>exact ⟨k+1,by omega,by go_num,by rw [HNN.out,<-HS.out],X1,X2⟩
   case measure=>simp [intOf];omega
  ·obtain rfl:k=8:=by omega
   have hk1:decide ((8:Int)<8)=false:=by decide
   have hlen:(⟨(2 :: Bk.jnK f 8).toArray⟩:ByteArray).size<=100:=by
    show (2 :: Bk.jnK f 8).toArray.size<=_;simp [Bk.Zdm]
   generalize (⟨(2 :: Bk.jnK f 8).toArray⟩:ByteArray)=J at *;go_wp2_with (refine wpList_load_row rfl 127 _ rfl gl rfl 127 (arr f) (0,0) _ R1.2 U127 rfl hiL ?_)
   refine (c4 _).mono ?_;rintro e w4 ⟨rfl,G4⟩;have B5:=bch B1 G4 (nl _);clear B1 G4 c4 R1;go_wp2_with fail
   refine (c3 _).mono ?_;rintro e w5 ⟨rfl,G5⟩;have B6:=bch B5 G5 (nl _);clear B5 G5 c3;go_wp2_with fail
   go_ret
   exact ⟨congrArg (fun s=>Ending.returned (Value.string s)) HE.out,B6⟩
end Go.Proofs.YtbjbjbpgmojcbabGreat
