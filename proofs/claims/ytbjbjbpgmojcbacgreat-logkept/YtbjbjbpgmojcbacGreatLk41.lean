/- A part of the proof: what it leans on. -/
import Derived.Deep.Slices
import Derived.SizedLaws
import Derived.Carry
import Derived.ChangeSame
import Derived.Test.YtbjbjbpgmojcbacGreatLk39
set_option maxRecDepth 4000
set_option maxHeartbeats 2000000
namespace Go.Proofs.YtbjbjbpgmojcbacGreat
open Go.RowKit
theorem ZiK (ad af ad' af':Option Addr) (cd cf cd' cf':Nat) (a:Ar.A) (w:World) (h:ArV w ad af a) (h':ArV w ad' af' a) (hD:a.dicts.length<=8796093022208) (hN:a.files.length<=8796093022208) :
 Calls Tryz.prog 8 #[av ad cd af cf a,av ad' cd' af' cf' a] w fun e w'=>e=.returned (.bool true)/\Below w.heap.size w w':=by
 have hb:=fun o p=>((bR w.heap.size w).alloc (nl _) o).alloc (by simp) p
 have HX:Hid (∀ w',Below w.heap.size w w'->∀ k,k<a.dicts.length->∃ b off,ad=some ⟨b,off,none⟩/\b<w'.heap.size/\w'.cell? ⟨b,off+k,none⟩=some (.string (Tr.xa a.dicts k))):=fun w' hb k hk=>(h.ds.below hb).at hk
 have HX':Hid (∀ w',Below w.heap.size w w'->∀ k,k<a.dicts.length->∃ b off,ad'=some ⟨b,off,none⟩/\b<w'.heap.size/\w'.cell? ⟨b,off+k,none⟩=some (.string (Tr.xa a.dicts k))):=fun w' hb k hk=>(h'.ds.below hb).at hk
 have HF:Hid (∀ w',Below w.heap.size w w'->∀ k,k<a.files.length->∃ b off,af=some ⟨b,off,none⟩/\b<w'.heap.size/\FlC w' b (off+k*5) (Ar.fa a.files k)):=fun w' h9 k hk=>(h.fs.below h9).at hk
 have HF':Hid (∀ w',Below w.heap.size w w'->∀ k,k<a.files.length->∃ b off,af'=some ⟨b,off,none⟩/\b<w'.heap.size/\FlC w' b (off+k*5) (Ar.fa a.files k)):=fun w' h9 k hk=>(h'.fs.below h9).at hk
 unfold av;clear h h';generalize a.dicts.length=D at *;generalize a.files.length=N at *;have hDi:(D:Int)<=8796093022208:=by omega
 have hNi:(N:Int)<=8796093022208:=by omega
 go_enter Tryz.func8,Tryz.ntmps8
 go_wp2_with fail
 obtain ⟨k1,k2⟩:=box2 w #[.slice ad D cd,.slice af N cf] #[.slice ad' D cd',.slice af' N cf'] 33 33;have B1:=hb (.cells #[.slice ad D cd,.slice af N cf] 33 (0,0)) (.cells #[.slice ad' D cd',.slice af' N cf'] 33 (0,0));generalize ((w.alloc (.cells #[.slice ad D cd,.slice af N cf] 33 (0,0))).alloc (.cells #[.slice ad' D cd',.slice af' N cf'] 33 (0,0)))=w1 at *;have a0:w1.cell? ⟨w.heap.size,0,none⟩=some (.slice ad D cd):=k1 0;have a1:w1.cell? ⟨w.heap.size,1,none⟩=some (.slice af N cf):=k1 1;have b0:w1.cell? ⟨w.heap.size+1,0,none⟩=some (.slice ad' D cd'):=k2 0;have b1:w1.cell? ⟨w.heap.size+1,1,none⟩=some (.slice af' N cf'):=k2 1;clear k1 k2;go_loopw [5] (fun i wr=>∃ k:Nat,k<=D/\i=.int .i64 k/\(∀ p,wr.cell? p=w1.cell? p)/\Below w.heap.size w wr) (fun i _=>D - (intOf i).toNat)
 case atStart=>exact ⟨0,by omega,rfl,fun _=>rfl,B1⟩
 case round =>
  obtain ⟨k,hk2,rfl,hsame,B2⟩:=hrel;have a0':=(hsame _).trans a0;have b0':=(hsame _).trans b0;have a1':=(hsame _).trans a1;have b1':=(hsame _).trans b1;by_cases hlt:k<D
  ·have d1:decide ((k:Int)<(D:Int))=true:=by simp;omega
   have d1':decide (k<D)=true:=by simp;omega
   have hki:(k:Int)<(D:Int):=by omega
   obtain ⟨b,off,rfl,hbl,hc⟩:=HX.out wr B2 k hlt;obtain ⟨b',off',rfl,hbl',hc'⟩:=HX'.out wr B2 k hlt;have HSm:Hid (∀ p,wr.cell? p=w1.cell? p):=hsame;clear hsame;generalize Tr.xa a.dicts k=X at *;go_wp2_with fail
   go_region
   all_goals
    go_wp2_with fail
    go_roundw
    case rel=>exact ⟨k+1,by omega,by go_num,fun p=>HSm.out p,B2.drew⟩
    case measure=>simp [intOf];omega
  ·obtain rfl:k=D:=by omega
   have d1:decide ((k:Int)<(k:Int))=false:=by simp
   have HSm:Hid (∀ p,wr.cell? p=w1.cell? p):=hsame;clear hsame;go_wp2_with fail
   go_loopw [6] (fun i w2=>∃ m:Nat,m<=N/\i=.int .i64 m/\(∀ p,w2.cell? p=w1.cell? p)/\Below w.heap.size w w2) (fun i _=>N - (intOf i).toNat)
   case atStart=>exact ⟨0,by omega,rfl,HSm.out,B2⟩
   case round =>
    obtain ⟨m,hm2,rfl,hsame2,B3⟩:=hrel;have a2:=(hsame2 _).trans a1;have b2:=(hsame2 _).trans b1;have HSm2:Hid (∀ p,World.cell? _ p=w1.cell? p):=hsame2;clear hsame2 a0' b0' a1' b1';by_cases hlt:m<N
    ·have d2:decide ((m:Int)<(N:Int))=true:=by simp;omega
     have d2':decide (m<N)=true:=by simp;omega
     have hmi:(m:Int)<(N:Int):=by omega
     obtain ⟨b,off,rfl,hbl,hcell⟩:=HF.out _ B3 m hlt;obtain ⟨c0,c1,c2,c3,c4⟩:=hcell;obtain ⟨b',off',rfl,hbl',hcell'⟩:=HF'.out _ B3 m hlt;obtain ⟨e0,e1,e2,e3,e4⟩:=hcell';generalize (Ar.fa a.files m).name=f0 at *;generalize (Ar.fa a.files m).dict=f1 at *;generalize (Ar.fa a.files m).size=f2 at *;generalize (Ar.fa a.files m).sum=f3 at *;generalize (Ar.fa a.files m).blk=f4 at *;go_wp2_with fail
     go_region
     all_goals
      go_wp2_with fail
      go_roundw
      case rel=>exact ⟨m+1,by omega,by go_num,fun p=>HSm2.out p,B3.drew⟩
      case measure=>simp [intOf];omega
    ·obtain rfl:m=N:=by omega
     have d2:decide ((m:Int)<(m:Int))=false:=by simp
     go_wp2_with fail
     go_ret
     exact ⟨rfl,B3⟩
def chz (i n:Int):Int:=if i<0 then (-(i+1)) % n else i % n
theorem Zts (i n:Int) (h:0<n):0<=chz i n:=by unfold chz;split <;> exact Int.emod_nonneg _ (by omega)
theorem Ztl (i n:Int) (h:0<n):chz i n<n:=by unfold chz;split <;> exact Int.emod_lt_of_pos _ h
theorem Zki (i n:Int) (w:World) (h0:-9223372036854775808<=i) (h1:i<=9223372036854775807) (hn:0<n) (hn2:n<=1000000000) :
 Calls Tryz.prog 10 #[.int .i64 i,.int .i64 n] w fun e w'=>e=.returned (.int .i64 (chz i n))/\w'=w:=by
 have hnz:¬ n=0:=by omega
 unfold chz;by_cases h:i<0
 ·have d1:decide (i<0)=true:=zdT h;have hw1:IntKind.i64.wrap (i+1)=i+1:=IntWalk.i64_in _ ⟨by omega,by omega⟩;have hw2:IntKind.i64.wrap (-(i+1))=-(i+1):=IntWalk.i64_in _ ⟨by omega,by omega⟩;rw [if_pos h];have ht:(-(i+1)).tmod n=(-(i+1)) % n:=Int.tmod_eq_emod_of_nonneg (by omega);have hm:=Int.emod_nonneg (-(i+1)) (show n ≠ 0 by omega);have hm2:=Int.emod_lt_of_pos (-(i+1)) hn;go_enter Tryz.func10,Tryz.ntmps10
  go_wp2_with fail
  go_ret
  exact ⟨congrArg (fun x=>Ending.returned (Value.int .i64 x)) (by omega),rfl⟩
 ·have d1:decide (i<0)=false:=dF h;rw [if_neg h];have ht:i.tmod n=i % n:=Int.tmod_eq_emod_of_nonneg (by omega);go_enter Tryz.func10,Tryz.ntmps10
  go_wp2_with fail
  go_ret
  exact ⟨congrArg (fun x=>Ending.returned (Value.int .i64 x)) (by omega),rfl⟩
open Go.ChangeShapes Go.WideShapes Go.Deep
theorem ZeI {H:Type} {P:Program} {e:TypeId} {f:Nat->DataW H} {n i:Nat} (hi:i<n) {m:Nat} (h:m ∈ (f i).weights P e):m ∈ DataW.weightsAll P e ((List.range n).map f):=by
 have gen:∀ (l:List (DataW H)) (d:DataW H),d ∈ l->m ∈ d.weights P e->m ∈ DataW.weightsAll P e l:=by
  intro l
  induction l with
  | nil=>intro d h;simp at h
  | cons a l ih =>
   intro d hd hm;rw [DataW.weightsAll,List.mem_append];rcases List.mem_cons.1 hd with rfl | hd
   ·exact .inl hm
   ·exact .inr (ih d hd hm)
 exact gen _ (f i) (List.mem_map.2 ⟨i,List.mem_range.2 hi,rfl⟩) h
theorem Ztv {W:World} {a:Addr} {n:Nat} {ps:List MemPlace} (h:∀ x ∈ MemPlace.row a (n+1)++ps,x.block<W.heap.size):a.block<W.heap.size:=by
 refine h (.cell a.block (a.off+0)) ?_;rw [List.mem_append]
 left
 exact List.mem_map.2 ⟨0,List.mem_range.2 (by omega),rfl⟩
theorem ZrT:laidOutB Tryz.prog=true:=by kernel_rfl
theorem Zug:Tryz.prog.cellsOf 9=1:=by kernel_rfl
theorem Zum:Tryz.prog.cellsOf 3=1:=by kernel_rfl
def ZfR:Option TypeDesc->List (TypeId × Nat)
 | some (.struct fs)=>fs.toList.map (fun f=>(f.type,f.offset))
 | _=>[]
theorem ZfQ:Tryz.prog.cellsOf 29=4:=by kernel_rfl
theorem ZrK {u:Option TypeDesc} {a0 a1 a2 a3:TypeId × Nat} (h:ZfR u=[a0,a1,a2,a3]):∃ f0 f1 f2 f3:Field,u=some (.struct #[f0,f1,f2,f3])/\(f0.type=a0.1/\f0.offset=a0.2)/\(f1.type=a1.1/\f1.offset=a1.2)/\(f2.type=a2.1/\f2.offset=a2.2)/\(f3.type=a3.1/\f3.offset=a3.2):=by
 unfold ZfR at h;split at h
 ·rename_i fs0
  obtain ⟨fs⟩:=fs0
  match fs,h with
  | [f0,f1,f2,f3],h =>
   simp at h;obtain ⟨rfl,rfl,rfl,rfl⟩:=h;exact ⟨f0,f1,f2,f3,rfl,⟨rfl,rfl⟩,⟨rfl,rfl⟩,⟨rfl,rfl⟩,⟨rfl,rfl⟩⟩
  | [],h=>simp at h
  | [_],h=>simp at h
  | [_,_],h=>simp at h
  | [_,_,_],h=>simp at h
  | _ :: _ :: _ :: _ :: _ :: _,h=>simp at h
 ·simp at h
theorem ZmN:ZfR (Tryz.prog.underlying 29)=[(3,0),(3,1),(9,2),(9,3)]:=by kernel_rfl
theorem len4 {α:Type} {l:List α} (h:l.length=4):∃ a b c d,l=[a,b,c,d]:=by
 match l,h with
 | [a,b,c,d],_=>exact ⟨a,b,c,d,rfl⟩
theorem ZkY {H:Type} {enc:TypeId × Value->H} {W:World} {fuel:Nat} {cs:List Value} {x:DataW H × List MemPlace} (h:DataW.trod enc Tryz.prog W 0 (fun _=>true) true fuel 29 cs=some x) :
 ∃ q:Im.Act,cs=[.int .i64 q.kind,.int .i64 q.n,.string q.name,.string q.text]/\x.1=.agg [.lit (.int .i64 q.kind),.lit (.int .i64 q.n),.lit (.string q.name.data.toList),.lit (.string q.text.data.toList)]/\∀ m,m=q.name.size\/m=q.text.size->m ∈ x.1.weights Tryz.prog 29:=by
 obtain ⟨f0,f1,f2,f3,hs,⟨t0,o0⟩,⟨t1,o1⟩,⟨t2,o2⟩,⟨t3,o3⟩⟩:=ZrK ZmN;obtain ⟨xs,k,hk,hxy,hlen,hxl,hfs⟩:=DataW.trod_struct hs h;rw [ZfQ] at hlen;obtain ⟨y0,y1,y2,y3,rfl⟩:=len4 (show xs.length=4 from hxl);obtain ⟨v0,v1,v2,v3,rfl⟩:=len4 hlen;have g0:=hfs 0 f0 rfl;have g1:=hfs 1 f1 rfl;have g2:=hfs 2 f2 rfl;have g3:=hfs 3 f3 rfl;simp [t0,o0,t1,o1,t2,o2,t3,o3,Zug,Zum] at g0 g1 g2 g3;obtain ⟨p,hp0,hy0,_⟩:=DataW.trod_int zU3 g0;obtain ⟨r,hr0,hy1,_⟩:=DataW.trod_int zU3 g1;obtain ⟨s,hs0,hy2,_⟩:=DataW.trod_string U9 g2;obtain ⟨z,hz0,hy3,_⟩:=DataW.trod_string U9 g3;simp only [List.cons.injEq,and_true] at hs0 hp0 hr0 hz0;subst hs0 hp0 hr0 hz0 hy0 hy1 hy2 hy3;have hd:=congrArg Prod.fst hxy;simp only [List.map_cons,List.map_nil] at hd;refine ⟨⟨p,r,s,z⟩,rfl,hd,fun m hm=>?_⟩;rw [hd,DataW.weights,hs];simp only [List.map_cons,List.map_nil];rw [DataW.weightsEach,List.mem_append,DataW.weightsEach,List.mem_append,DataW.weightsEach,List.mem_append,DataW.weightsEach,List.mem_append];rcases hm with rfl | rfl
 ·refine .inr (.inr (.inl ?_));rw [DataW.weights];exact List.mem_singleton.2 (by simp)
 ·refine .inr (.inr (.inr (.inl ?_)));rw [DataW.weights];exact List.mem_singleton.2 (by simp)
theorem ZjU {n:Nat} (h:n<=reachBytes):n<=140737488355328:=by simp [reachBytes] at h;omega
theorem Zmv {H:Type} {enc:TypeId × Value->H} {W:World} {a:Option Addr} {len cap fuel:Nat} {d:DataW H} {ps:List MemPlace}
 (hf:DataW.trod enc Tryz.prog W 0 (fun _=>true) true fuel 22 [.slice a len cap]=some (d,ps))
 (hsz:∀ n ∈ d.weights Tryz.prog 22,n<=reachBytes) :
 ∃ l:List Im.Act,len=l.length/\XSl W a l/\SaneX l:=by
 have lt:∀ x ∈ ps,x.block<W.heap.size:=DataW.trod_lt fuel _ _ _ hf;rcases open_slice U22 hf with ⟨hcs,_⟩ | ⟨x,len',cap',m,n,D,Pl,hcs,_,hl,hm,hmm,hx,each⟩
 ·simp at hcs;obtain ⟨rfl,rfl,rfl⟩:=hcs;exact ⟨[],rfl,.inl rfl,fun x hx=>by simp at hx⟩
 ·simp at hcs;obtain ⟨rfl,rfl,rfl⟩:=hcs;simp only [if_true] at hmm;subst hmm;have hx1:=congrArg Prod.fst hx;have hx2:=congrArg Prod.snd hx;dsimp only at hx1 hx2;rw [hx1] at hsz;rw [hx2] at lt;clear hx hx1 hx2 hf
  have key:∀ i,i<m->∃ q:Im.Act,W.cell? (x.add (i*4))=some (.int .i64 q.kind)/\W.cell? (x.add (i*4+1))=some (.int .i64 q.n)/\W.cell? (x.add (i*4+2))=some (.string q.name)/\W.cell? (x.add (i*4+3))=some (.string q.text)/\∀ m,m=q.name.size\/m=q.text.size->m ∈ (D i).weights Tryz.prog 29:=by
   intro i hi;obtain ⟨cs',h1,h2⟩:=each i hi;rw [ZfQ] at h1;obtain ⟨_,hlen,hcell⟩:=World.cells?_some h1;obtain ⟨q,rfl,_,e3⟩:=ZkY h2;have e0:=hcell 0 (by omega);have e1:=hcell 1 (by omega);have e2:=hcell 2 (by omega);have e4:=hcell 3 (by omega);rw [add_add] at e0 e1 e2 e4;exact ⟨q,by simpa using e0,by simpa using e1,by simpa using e2,by simpa using e4,e3⟩
  have:Inhabited Im.Act:=⟨Im.xz⟩
  obtain ⟨q,hq⟩:=choose_lt key;have hlen:((List.range len).map q).length=len:=by simp
  refine ⟨(List.range len).map q,hlen.symm,?_,?_⟩
  ·by_cases h0:len=0
   ·left;simp [h0]
   ·right
    obtain ⟨b,off,sp⟩:=x;have hc0:=(hq 0 (by omega)).1;have hsp:sp=none:=by simpa [Addr.add] using World.cell?_spot hc0
    subst hsp
    have hb:b<W.heap.size:=by
     rw [ZfQ,show m*4=(m*4 - 1)+1 by omega] at lt;exact Ztv lt
    refine ⟨b,off,rfl,hb,fun i hi=>?_⟩;rw [hlen] at hi;obtain ⟨q0,q1,q2,q3,_⟩:=hq i (by omega);have e:Im.xa ((List.range len).map q) i=q i:=by simp [Im.xa,hi]
    rw [e];refine ⟨?_,?_,?_,?_⟩
    ·rw [<-q0,add_plain]
    ·rw [<-q1,add_plain,Nat.add_assoc]
    ·rw [<-q2,add_plain,Nat.add_assoc]
    ·rw [<-q3,add_plain,Nat.add_assoc]
  ·intro t ht;obtain ⟨i,hi,rfl⟩:=List.mem_map.1 ht;have hi':=List.mem_range.1 hi;have hw:=(hq i (by omega)).2.2.2.2;have k1:=hsz _ (by rw [DataW.weights,Tryz.underlying22];exact List.mem_cons_of_mem _ (List.mem_append.2 (.inl (ZeI hi' (hw _ (.inl rfl))))));have k2:=hsz _ (by rw [DataW.weights,Tryz.underlying22];exact List.mem_cons_of_mem _ (List.mem_append.2 (.inl (ZeI hi' (hw _ (.inr rfl))))));exact ⟨ZjU k1,ZjU k2⟩
end Go.Proofs.YtbjbjbpgmojcbacGreat
