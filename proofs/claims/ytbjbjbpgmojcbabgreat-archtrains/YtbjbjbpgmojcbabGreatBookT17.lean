/- A part of the proof: what it leans on. -/
import Derived.ChangeSame
import Derived.Test.YtbjbjbpgmojcbabGreatBookT12
import Derived.Test.YtbjbjbpgmojcbabGreatBookT16
namespace Go.Proofs.YtbjbjbpgmojcbabGreat
open Go.ChangeShapes Go.WideShapes Go.RowKit Go.Deep
theorem fl_cells:Tryz.prog.cellsOf 46=5:=by kernel_rfl
theorem fl_bytes:Tryz.prog.bytesOf 46=56:=by kernel_rfl
theorem fl_str:Tryz.prog.cellsOf 9=1:=by kernel_rfl
theorem fl_int:Tryz.prog.cellsOf 3=1:=by kernel_rfl
theorem ar_cells:Tryz.prog.cellsOf 25=2:=by kernel_rfl
theorem ar_sl1:Tryz.prog.cellsOf 22=1:=by kernel_rfl
theorem ar_sl2:Tryz.prog.cellsOf 23=1:=by kernel_rfl
def fieldsIn:Option TypeDesc->List (TypeId × Nat)
 | some (.struct fs)=>fs.toList.map (fun f=>(f.type,f.offset))
 | _=>[]
theorem fields5 {u:Option TypeDesc} {a0 a1 a2 a3 a4:TypeId × Nat} (h:fieldsIn u=[a0,a1,a2,a3,a4]):∃ f0 f1 f2 f3 f4:Field,u=some (.struct #[f0,f1,f2,f3,f4])/\(f0.type=a0.1/\f0.offset=a0.2)/\(f1.type=a1.1/\f1.offset=a1.2)/\(f2.type=a2.1/\f2.offset=a2.2)/\(f3.type=a3.1/\f3.offset=a3.2)/\(f4.type=a4.1/\f4.offset=a4.2):=by
 unfold fieldsIn at h
 split at h
 · rename_i fs0
   obtain ⟨fs⟩:=fs0
   match fs,h with
   | [f0,f1,f2,f3,f4],h =>
    simp at h
    obtain ⟨rfl,rfl,rfl,rfl,rfl⟩:=h
    exact ⟨f0,f1,f2,f3,f4,rfl,⟨rfl,rfl⟩,⟨rfl,rfl⟩,⟨rfl,rfl⟩,⟨rfl,rfl⟩,⟨rfl,rfl⟩⟩
   | [],h=>simp at h
   | [_],h=>simp at h
   | [_,_],h=>simp at h
   | [_,_,_],h=>simp at h
   | [_,_,_,_],h=>simp at h
   | _ :: _ :: _ :: _ :: _ :: _ :: _,h=>simp at h
 · simp at h
theorem fields2 {u:Option TypeDesc} {a0 a1:TypeId × Nat} (h:fieldsIn u=[a0,a1]):∃ f0 f1:Field,u=some (.struct #[f0,f1])/\(f0.type=a0.1/\f0.offset=a0.2)/\(f1.type=a1.1/\f1.offset=a1.2):=by
 unfold fieldsIn at h
 split at h
 · rename_i fs0
   obtain ⟨fs⟩:=fs0
   match fs,h with
   | [f0,f1],h =>
    simp at h
    obtain ⟨rfl,rfl⟩:=h
    exact ⟨f0,f1,rfl,⟨rfl,rfl⟩,⟨rfl,rfl⟩⟩
   | [],h=>simp at h
   | [_],h=>simp at h
   | _ :: _ :: _ :: _,h=>simp at h
 · simp at h
theorem fl_fields:fieldsIn (Tryz.prog.underlying 46)=[(9,0),(3,1),(3,2),(3,3),(9,4)]:=by kernel_rfl
theorem ar_fields:fieldsIn (Tryz.prog.underlying 25)=[(22,0),(23,1)]:=by kernel_rfl
theorem len5 {α:Type} {l:List α} (h:l.length=5):∃ a b c d e,l=[a,b,c,d,e]:=by
 match l,h with
 | [a,b,c,d,e],_=>exact ⟨a,b,c,d,e,rfl⟩
theorem len2 {α:Type} {l:List α} (h:l.length=2):∃ a b,l=[a,b]:=by
 match l,h with
 | [a,b],_=>exact ⟨a,b,rfl⟩
theorem open_files {H:Type} {enc:TypeId × Value->H} {W:World} {a:Option Addr} {len cap fuel:Nat} {d:DataW H} {ps:List MemPlace}
 (hf:DataW.trod enc Tryz.prog W 0 (fun _=>true) true fuel 23 [.slice a len cap]=some (d,ps))
 (hsz:∀ n ∈ d.weights Tryz.prog 23,n<=reachBytes) :
 ∃ l:List Ar.F,len=l.length/\FlSl W a l/\l.length*56<=140737488355328/\(∀ f ∈ l,f.name.size<=140737488355328/\f.blk.size<=140737488355328):=by
 obtain ⟨f0,f1,f2,f3,f4,hs,⟨t0,o0⟩,⟨t1,o1⟩,⟨t2,o2⟩,⟨t3,o3⟩,⟨t4,o4⟩⟩:=fields5 fl_fields
 have lt:∀ x ∈ ps,x.block<W.heap.size:=DataW.trod_lt fuel _ _ _ hf
 rcases open_slice Tryz.underlying23 hf with ⟨hcs,_⟩ | ⟨x,len',cap',m,n,D,Pl,hcs,_,hl,hm,hmm,hx,each⟩
 · simp at hcs
   obtain ⟨rfl,rfl,rfl⟩:=hcs
   exact ⟨[],rfl,.inl rfl,by simp,by simp⟩
 · simp at hcs
   obtain ⟨rfl,rfl,rfl⟩:=hcs
   simp only [if_true] at hmm
   subst hmm
   have hx1:=congrArg Prod.fst hx
   have hx2:=congrArg Prod.snd hx
   dsimp only at hx1 hx2
   rw [hx1] at hsz
   rw [hx2] at lt
   clear hx hx1 hx2 hf
   have key:∀ i,i<m->∃ q:Ar.F,W.cell? (x.add (i*5))=some (.string q.name)/\W.cell? (x.add (i*5+1))=some (.int .i64 q.dict)/\W.cell? (x.add (i*5+2))=some (.int .i64 q.size)/\W.cell? (x.add (i*5+3))=some (.int .i64 q.sum)/\W.cell? (x.add (i*5+4))=some (.string q.blk)/\D i=.agg [.lit (.string q.name.data.toList),.lit (.int .i64 q.dict),.lit (.int .i64 q.size),.lit (.int .i64 q.sum),.lit (.string q.blk.data.toList)]:=by
    intro i hi
    obtain ⟨cs',h1,h2⟩:=each i hi
    rw [fl_cells] at h1
    obtain ⟨_,hlen,hcell⟩:=World.cells?_some h1
    obtain ⟨xs,k,hk,hxy,_,hxl,hfs⟩:=DataW.trod_struct hs h2
    obtain ⟨y0,y1,y2,y3,y4,rfl⟩:=len5 (show xs.length=5 from hxl)
    obtain ⟨v0,v1,v2,v3,v4,rfl⟩:=len5 hlen
    have g0:=hfs 0 f0 rfl
    have g1:=hfs 1 f1 rfl
    have g2:=hfs 2 f2 rfl
    have g3:=hfs 3 f3 rfl
    have g4:=hfs 4 f4 rfl
    simp [t0,o0,t1,o1,t2,o2,t3,o3,t4,o4,fl_str,fl_int] at g0 g1 g2 g3 g4
    have e0:=hcell 0 (by omega)
    have e1:=hcell 1 (by omega)
    have e2:=hcell 2 (by omega)
    have e3:=hcell 3 (by omega)
    have e4:=hcell 4 (by omega)
    rw [add_add] at e0 e1 e2 e3 e4
    obtain ⟨s,hs0,hy0,_⟩:=DataW.trod_string Tryz.underlying9 g0
    obtain ⟨p,hp0,hy1,_⟩:=DataW.trod_int Tryz.underlying3 g1
    obtain ⟨r,hr0,hy2,_⟩:=DataW.trod_int Tryz.underlying3 g2
    obtain ⟨u,hu0,hy3,_⟩:=DataW.trod_int Tryz.underlying3 g3
    obtain ⟨z,hz0,hy4,_⟩:=DataW.trod_string Tryz.underlying9 g4
    simp only [List.cons.injEq,and_true] at hs0 hp0 hr0 hu0 hz0
    subst hs0 hp0 hr0 hu0 hz0 hy0 hy1 hy2 hy3 hy4
    simp only [Prod.mk.injEq] at hxy
    exact ⟨⟨s,p,r,u,z⟩,by simpa using e0,by simpa using e1,by simpa using e2,by simpa using e3,by simpa using e4,by simpa using hxy.1⟩
   have:Inhabited Ar.F:=⟨Ar.fz⟩
   obtain ⟨q,hq⟩:=choose_lt key
   have hlen:((List.range len).map q).length=len:=by simp
   refine ⟨(List.range len).map q,hlen.symm,?_,?_,?_⟩
   · by_cases h0:len=0
     · left;simp [h0]
     · right
       obtain ⟨b,off,sp⟩:=x
       have hc0:=(hq 0 (by omega)).1
       have hsp:sp=none:=by simpa [Addr.add] using World.cell?_spot hc0
       subst hsp
       have hb:b<W.heap.size:=by
        rw [fl_cells,show m*5=(m*5 - 1)+1 by omega] at lt
        exact row_lt lt
       refine ⟨b,off,rfl,hb,fun i hi=>?_⟩
       rw [hlen] at hi
       obtain ⟨q0,q1,q2,q3,q4,_⟩:=hq i (by omega)
       have e:Ar.fa ((List.range len).map q) i=q i:=by simp [Ar.fa,hi]
       rw [e]
       refine ⟨?_,?_,?_,?_,?_⟩
       · rw [<-q0,add_plain]
       · rw [<-q1,add_plain,Nat.add_assoc]
       · rw [<-q2,add_plain,Nat.add_assoc]
       · rw [<-q3,add_plain,Nat.add_assoc]
       · rw [<-q4,add_plain,Nat.add_assoc]
   · rw [hlen]
     have:=hsz ((((List.range len).map D).length+((List.range (m - len)).map fun j=>D (len+j)).length)*Tryz.prog.bytesOf 46) (by rw [DataW.weights,Tryz.underlying23];exact List.mem_cons_self ..)
     rw [fl_bytes] at this
     simp [reachBytes] at this
     omega
   · intro t ht
     obtain ⟨i,hi,rfl⟩:=List.mem_map.1 ht
     have hi':=List.mem_range.1 hi
     have hd:=(hq i (by omega)).2.2.2.2.2
     have hw1:(q i).name.data.toList.length ∈ (D i).weights Tryz.prog 46:=by
      rw [hd,DataW.weights,hs]
      simp only [List.map_cons,List.map_nil]
      rw [DataW.weightsEach,List.mem_append]
      left
      rw [DataW.weights]
      exact List.mem_singleton.2 rfl
     have hw2:(q i).blk.data.toList.length ∈ (D i).weights Tryz.prog 46:=by
      rw [hd,DataW.weights,hs]
      simp only [List.map_cons,List.map_nil]
      rw [DataW.weightsEach,List.mem_append]
      right
      rw [DataW.weightsEach,List.mem_append]
      right
      rw [DataW.weightsEach,List.mem_append]
      right
      rw [DataW.weightsEach,List.mem_append]
      right
      rw [DataW.weightsEach,List.mem_append]
      left
      rw [DataW.weights]
      exact List.mem_singleton.2 rfl
     have k1:=hsz _ (by rw [DataW.weights,Tryz.underlying23];exact List.mem_cons_of_mem _ (List.mem_append.2 (.inl (weights_all hi' hw1))))
     have k2:=hsz _ (by rw [DataW.weights,Tryz.underlying23];exact List.mem_cons_of_mem _ (List.mem_append.2 (.inl (weights_all hi' hw2))))
     have j1:(q i).name.data.toList.length=(q i).name.size:=by simp
     have j2:(q i).blk.data.toList.length=(q i).blk.size:=by simp
     rw [j1] at k1
     rw [j2] at k2
     simp [reachBytes] at k1 k2
     omega
theorem slice_is {H:Type} {enc:TypeId × Value->H} {P:Program} {W:World} {fuel:Nat} {t e:TypeId} {v:Value} {x:DataW H × List MemPlace} (hu:P.underlying t=some (.slice e)) (h:DataW.trod enc P W 0 (fun _=>true) true fuel t [v]=some x):∃ a len cap,v=.slice a len cap:=by
 rcases DataW.trod_slice hu h with ⟨h1,_⟩ | ⟨a,len,cap,_,_,_,_,h1,_⟩
 · simp at h1;exact ⟨_,_,_,h1⟩
 · simp at h1;exact ⟨_,_,_,h1⟩
set_option maxRecDepth 100000 in
theorem open_arch {H:Type} {enc:TypeId × Value->H} {W:World} {v:Value} {d:DataW H} {ps:List MemPlace} {r:Reach} {b0:Nat}
 (hv:Value.okWide Tryz.prog W r b0 25 v)
 (h:DataW.Trod enc Tryz.prog W 0 (fun _=>true) true 25 v d ps)
 (hsz:∀ n ∈ d.weights Tryz.prog 25,n<=reachBytes) :
 ∃ ad cd af cf a,v=av ad cd af cf a/\ArV W ad af a/\SaneA a/\a.files.length*56<=140737488355328:=by
 obtain ⟨f0,f1,hs,⟨t0,o0⟩,⟨t1,o1⟩⟩:=fields2 ar_fields
 obtain ⟨xs0,rfl,_⟩:=okWide_struct hs hv
 obtain ⟨xs⟩:=xs0
 obtain ⟨fuel,hf⟩:=h
 obtain ⟨y0,y1,n,hx,hl,g0,g1⟩:=trod_struct2 hs hf
 rw [ar_cells] at hl
 simp only [Value.cells] at hl g0 g1
 obtain ⟨v0,v1,rfl⟩:=len2 hl
 simp [t0,o0,t1,o1,ar_sl1,ar_sl2] at g0 g1
 obtain ⟨ad,n1,cd,rfl⟩:=slice_is Tryz.underlying22 g0
 obtain ⟨af,n2,cf,rfl⟩:=slice_is Tryz.underlying23 g1
 have hd:=congrArg Prod.fst hx
 dsimp only at hd
 have hw:∀ n,n ∈ y0.1.weights Tryz.prog 22\/n ∈ y1.1.weights Tryz.prog 23->n<=reachBytes:=by
  intro n hn
  refine hsz n ?_
  rw [hd,DataW.weights,hs]
  simp only [List.map_cons,List.map_nil,t0,t1]
  rw [DataW.weightsEach,List.mem_append,DataW.weightsEach,List.mem_append]
  rcases hn with hn | hn
  · exact .inl hn
  · exact .inr (.inl hn)
 obtain ⟨l1,rfl,S1,N1,M1⟩:=open_texts g0 (fun n hn=>hw n (.inl hn))
 obtain ⟨l2,rfl,S2,N2,M2⟩:=open_files g1 (fun n hn=>hw n (.inr hn))
 refine ⟨ad,cd,af,cf,⟨l1,l2⟩,rfl,⟨S1,S2⟩,sane_of N1 (by show l2.length<=_;omega) (fun d hd=>?_) M2,N2⟩
 obtain ⟨i,hi,rfl⟩:=List.getElem_of_mem hd
 have:=M1 i
 simpa [Tr.xa,hi] using this
end Go.Proofs.YtbjbjbpgmojcbabGreat
