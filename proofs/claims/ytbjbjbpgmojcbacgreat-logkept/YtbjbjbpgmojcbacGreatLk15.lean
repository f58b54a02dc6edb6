/- A part of the proof: what it leans on. -/
import Derived.Test.YtbjbjbpgmojcbacGreatLk14
set_option maxRecDepth 4000
set_option maxHeartbeats 4000000
namespace Go.Proofs.YtbjbjbpgmojcbacGreat
open Go.RowKit
theorem ZdB (l:List UInt8):(⟨l.toArray⟩:ByteArray).size=l.length:=by simp [ByteArray.size]
theorem Own8.form8 {w:World} {B:Nat} {v:Value} {l:List UInt8} (h:Own8 w B v l) (hl:l ≠ []):∃ g cap,v=.slice (some ⟨g,0,none⟩) l.length cap/\B<=g:=by
 rcases h with ⟨_,h⟩ | ⟨g,cap,h0,h1,_⟩
 ·exact absurd h hl
 ·exact ⟨g,cap,h0,h1⟩
def BufAt (w:World) (B gb:Nat) (l:List UInt8):Prop :=
 B<=gb/\gb<w.heap.size/\w.frozen? ⟨gb,0,none⟩=false ∧
 ((w.cell? ⟨gb,0,none⟩=some (.slice none 0 0)/\l=[])\/∃ g cp,w.cell? ⟨gb,0,none⟩=some (.slice (some ⟨g,0,none⟩) l.length cp)/\Own8 w B (.slice (some ⟨g,0,none⟩) l.length cp) l/\g ≠ gb)
theorem BufAt.below {w w':World} {B gb:Nat} {l:List UInt8} (h:BufAt w B gb l) (hb:Below w.heap.size w w'):BufAt w' B gb l:=by
 obtain ⟨a,b,c,d⟩:=h;refine ⟨a,nT b hb.size,(hb.frozen (by exact b)).trans c,?_⟩;rcases d with ⟨d,e⟩ | ⟨g,cp,d,e,f⟩
 ·exact .inl ⟨(hb.cell (by exact b)).trans d,e⟩
 ·exact .inr ⟨g,cp,(hb.cell (by exact b)).trans d,e.below hb,f⟩
theorem BufAt.put {w w':World} {B gb g cp:Nat} {v:Value} {l':List UInt8} (hB:B<=gb) (hg:gb<w.heap.size) (hf:w.frozen? ⟨gb,0,none⟩=false) (hc:(w.cell? ⟨gb,0,none⟩).isSome=true)
 (hne:v.ownBlock ≠ some gb) (hA:App w w' B v (.slice (some ⟨g,0,none⟩) l'.length cp) l') :
 BufAt (w'.setCell ⟨gb,0,none⟩ (.slice (some ⟨g,0,none⟩) l'.length cp)) B gb l'/\Below B w (w'.setCell ⟨gb,0,none⟩ (.slice (some ⟨g,0,none⟩) l'.length cp)):=by
 have hgb:some gb ≠ v.ownBlock:=fun e=>hne e.symm
 have hsz:=hA.below.size
 have hgne:g ≠ gb:=by
  rcases hA.at_ g rfl with h | h
  ·intro e;subst e;exact hne h
  ·omega
 have hblk:=hA.block gb hg hgb;refine ⟨⟨hB,by simpa [World.setCell] using nT hg hsz,?_,.inr ⟨g,cp,?_,?_,hgne⟩⟩,hA.below.setCell (p:=⟨gb,0,none⟩) hB _⟩
 ·rw [World.frozen?_setCell,World.frozen?_of_block (w:=w) (by exact hblk)];exact hf
 ·obtain ⟨u,hu⟩:=Option.isSome_iff_exists.1 hc;refine cS _ _ _ (u:=u) ?_;rw [World.cell?_of_block (w:=w) (by exact hblk)];exact hu
 ·refine hA.own.kept (by simp [World.setCell]) (fun k hk=>?_);have:g=k:=by simpa [Value.ownBlock] using hk
  subst this;exact zhS _ _ _ _ (by simpa using hgne)
theorem BufAt.app {w w':World} {B gb g cp:Nat} {v u:Value} {l':List UInt8} (hB:B<=gb) (hg:gb<w.heap.size) (hf:w.frozen? ⟨gb,0,none⟩=false) (hc:w.cell? ⟨gb,0,none⟩=some u)
 (hne:v.ownBlock ≠ some gb) (hA:App w w' B v (.slice (some ⟨g,0,none⟩) l'.length cp) l') :
 w'.cell? ⟨gb,0,none⟩=some u/\w'.frozen? ⟨gb,0,none⟩=false/\Hid (BufAt (w'.setCell ⟨gb,0,none⟩ (.slice (some ⟨g,0,none⟩) l'.length cp)) B gb l')/\Hid (Below B w (w'.setCell ⟨gb,0,none⟩ (.slice (some ⟨g,0,none⟩) l'.length cp))):=by
 have hgb:some gb ≠ v.ownBlock:=fun e=>hne e.symm
 have hblk:=hA.block gb hg hgb;have hP:=BufAt.put hB hg hf (by rw [hc];rfl) hne hA;exact ⟨(cB (w:=w) (by exact hblk)).trans hc,(fB (w:=w) (by exact hblk)).trans hf,hP.1,hP.2⟩
def BufQ (w:World) (B gb:Nat) (l:List UInt8) (q:Nat):Prop :=
 BufAt w B gb l/\q<w.heap.size/\q ≠ gb/\∀ g n cp,w.cell? ⟨gb,0,none⟩=some (.slice (some ⟨g,0,none⟩) n cp)->g ≠ q
theorem BufAt.box {w:World} {B gb:Nat} {l:List UInt8} (h:BufAt w B gb l) (o:Obj):BufQ (w.alloc o) B gb l w.heap.size:=by
 have hb:=(bR w.heap.size w).alloc (nl _) o;refine ⟨h.below hb,by simp,by have:=h.2.1;omega,fun g n cp hc=>?_⟩;rw [hb.cell (by exact h.2.1)] at hc;rcases h.2.2.2 with ⟨d,_⟩ | ⟨g',cp',d,e,_⟩
 ·rw [d] at hc;simp at hc
 ·rw [d] at hc;simp at hc;have:=(e.lt g' rfl).2;omega
theorem BufQ.below {w w':World} {B gb q:Nat} {l:List UInt8} (h:BufQ w B gb l q) (hb:Below w.heap.size w w'):BufQ w' B gb l q :=
 ⟨h.1.below hb,nT h.2.1 hb.size,h.2.2.1,fun g n cp hc=>h.2.2.2 g n cp (by rw [<-hb.cell (by exact h.1.2.1)];exact hc)⟩
theorem BufQ.app {w w':World} {B gb g cp q:Nat} {v:Value} {l l':List UInt8} (h:BufQ w B gb l q) (hc:w.cell? ⟨gb,0,none⟩=some v) (hne:v.ownBlock ≠ some gb)
 (hv:v=.slice none 0 0\/∃ g n cp,v=.slice (some ⟨g,0,none⟩) n cp) (hA:App w w' B v (.slice (some ⟨g,0,none⟩) l'.length cp) l') :
 w'.cell? ⟨gb,0,none⟩=some v/\w'.frozen? ⟨gb,0,none⟩=false/\Hid (BufQ (w'.setCell ⟨gb,0,none⟩ (.slice (some ⟨g,0,none⟩) l'.length cp)) B gb l' q)/\Hid (Below B w (w'.setCell ⟨gb,0,none⟩ (.slice (some ⟨g,0,none⟩) l'.length cp))) ∧
  Hid ((w'.setCell ⟨gb,0,none⟩ (.slice (some ⟨g,0,none⟩) l'.length cp)).heap[q]?=w.heap[q]?):=by
 obtain ⟨h1,h2,h3,h4⟩:=h
 have hq:some q ≠ v.ownBlock:=by
  rcases hv with rfl | ⟨g',n,cp',rfl⟩
  ·simp [Value.ownBlock]
  ·have:=h4 g' n cp' hc;simp [Value.ownBlock];omega
 obtain ⟨a1,a2,a3,a4⟩:=BufAt.app h1.1 h1.2.1 h1.2.2.1 hc hne hA;have hsz:=hA.below.size;have hblk:=hA.block q h2 hq
 have hgq:g ≠ q:=by
  rcases hA.at_ g rfl with h | h
  ·intro e;subst e;exact hq h.symm
  ·omega
 have hset:(w'.setCell ⟨gb,0,none⟩ (.slice (some ⟨g,0,none⟩) l'.length cp)).cell? ⟨gb,0,none⟩=some (.slice (some ⟨g,0,none⟩) l'.length cp):=cS _ _ _ a1;refine ⟨a1,a2,⟨a3.out,by simpa [World.setCell] using nT h2 hsz,h3,fun g' n' cp' hc'=>?_⟩,a4,?_⟩
 ·rw [hset] at hc';simp at hc';omega
 ·show (w'.setCell _ _).heap[q]?=_;rw [Below.heap_setCell _ _ _ _ (by simpa using h3)];exact hblk
theorem Zcb {ops:Array Oper} {rest:List Oper} {o:Oper} {a:Act} {Q:Exit->Act->World->Prop} (w:World) (hgd:o.guard=none) (sl x:Operand) (ho:o.op=.call { callee:=.builtin .append,args:=#[sl,x],argTypes:=#[77,9] })
 (B:Nat) (v:Value) (l:List UInt8) (hs:a.eval sl=v) (h:Own8 w B v l) (s:ByteArray) (hx:a.eval x=.string s)
 (hlen:l.length+s.size<=140737488355328) (hB:B<=w.heap.size) (hne:l++s.data.toList ≠ [])
 (hK:∀ g cp w',App w w' B v (.slice (some ⟨g,0,none⟩) (l++s.data.toList).length cp) (l++s.data.toList)->wpList Tryz.prog ops Q rest (a.put o.dst (.slice (some ⟨g,0,none⟩) (l++s.data.toList).length cp)) w'):wpList Tryz.prog ops Q (o :: rest) a w:=by
 refine Zcl w hgd sl x ho B v l hs h s hx hlen hB (fun v' w' hA=>?_);obtain ⟨g,cp,rfl,_⟩:=hA.own.form8 hne;exact hK g cp w' hA
theorem ZoE (B gb:Nat) (l:List UInt8) (n:Int) (w:World) (q:Nat) (hbuf:BufQ w B gb l q) (hBw:B<=w.heap.size) (h0:0<=n) (h1:n<=2147483647) (hl:l.length<=1000000) :
 Calls Tryz.prog 119 #[.int .i64 n,.pointer (some ⟨gb,0,none⟩)] w fun e w'=>e=.returned (.tuple #[])/\Below B w w'/\BufQ w' B gb (l++Nm.nb n.toNat) q/\w'.heap[q]?=w.heap[q]?:=by
 have hl5:=Nm.ZD n.toNat (by omega)
 obtain ⟨s,hs⟩:∃ s:ByteArray,s=⟨(Nm.nb n.toNat).toArray⟩:=⟨_,rfl⟩
 have hsd:s.data.toList=Nm.nb n.toNat:=by rw [hs]
 have hs5:s.size<=5:=by rw [hs,ZdB];exact hl5
 have Hne:Hid (∀ l:List UInt8,l++s.data.toList ≠ []):=fun l e=>Nm.ZpJ n.toNat (by rw [<-hsd];exact (List.append_eq_nil_iff.1 e).2)
 have HL:Hid (s.data.toList=Nm.nb n.toNat):=hsd;have hc:=Zgd n w h0 h1;rw [<-hs] at hc;clear hs hsd;go_enter Tryz.func119,Tryz.ntmps119
 go_wp2_with fail
 refine hc.mono ?_;rintro e w1 ⟨rfl,G⟩;have hb1:=hbuf.below G;have hBw1:B<=w1.heap.size:=nt hBw G.size;have HG:Below B w w1:=G.mono hBw;have HQ:Hid (w1.heap[q]?=w.heap[q]?):=G.block q hbuf.2.1;have HB1:Hid (BufQ w1 B gb l q):=hb1;clear hbuf G hc;obtain ⟨⟨a,b,c,d⟩,_,_,_⟩:=hb1;have len8:∀ l:List UInt8,(l++s.data.toList).length=l.length+s.size:=fun l=>by simp
 have Hlen:Hid (∀ l:List UInt8,(l++s.data.toList).length=l.length+s.size):=len8;clear len8;rcases d with ⟨d,e⟩ | ⟨g,cp,d,e,f⟩
 ·subst e;go_wp2_with (at_builtin;go_must (refine Zcb _ rfl _ _ rfl B (.slice none 0 0) [] rfl (Own8.nil _ _) s rfl (by simp;omega) hBw1 (Hne.out _) ?_;intro g1 cp1 w3 hA;obtain ⟨k1,k2,k3,k4,k5⟩:=BufQ.app HB1.out d (by simp [Value.ownBlock]) (Or.inl rfl) hA))
  go_end0
  have h3:=k3.out;have h4:=k4.out;have h5:=k5.out;rw [Hlen.out,HL.out] at h3;rw [Hlen.out] at h4 h5;simp only [List.length_nil,Nat.zero_add,List.nil_append] at h3 h4 h5;exact ⟨rfl,HG.trans h4,h3,h5.trans HQ.out⟩
 ·go_wp2_with (at_builtin;go_must (refine Zcb _ rfl _ _ rfl B (.slice (some ⟨g,0,none⟩) l.length cp) l rfl e s rfl (by omega) hBw1 (Hne.out _) ?_;intro g1 cp1 w3 hA;obtain ⟨k1,k2,k3,k4,k5⟩:=BufQ.app HB1.out d (by simp [Value.ownBlock];exact f) (Or.inr ⟨_,_,_,rfl⟩) hA))
  go_end0
  have h3:=k3.out;have h4:=k4.out;have h5:=k5.out;rw [Hlen.out,HL.out] at h3;rw [Hlen.out] at h4 h5;exact ⟨rfl,HG.trans h4,h3,h5.trans HQ.out⟩
def Open (w:World) (B gb q:Nat) (l:List UInt8) (x y z:Value) (T:TypeId) (g cp:Nat):Prop :=
 w.cell? ⟨q,0,none⟩=some x/\w.cell? ⟨q,1,none⟩=some y/\w.cell? ⟨q,2,none⟩=some z/\w.frozen? ⟨gb,0,none⟩=false ∧
  w.cell? ⟨gb,0,none⟩=some (.slice (some ⟨g,0,none⟩) l.length cp)/\Hid (Own8 w B (.slice (some ⟨g,0,none⟩) l.length cp) l)/\g ≠ gb/\Hid (BufQ w B gb l q)/\Hid (w.heap[q]?=some (.cells #[x,y,z] T))
theorem BufQ.open {w:World} {B gb q:Nat} {l:List UInt8} {x y z:Value} {T:TypeId} (h:BufQ w B gb l q) (hl:l ≠ []) (hq:w.heap[q]?=some (.cells #[x,y,z] T)):∃ g cp,Open w B gb q l x y z T g cp:=by
 have H:Hid (BufQ w B gb l q):=h;have e:∀ j,w.cell? ⟨q,j,none⟩=#[x,y,z][j]?:=fun j=>cell_of_row w q j _ _ _ hq
 obtain ⟨⟨_,_,c,d⟩,_⟩:=h;rcases d with ⟨_,d⟩ | ⟨g,cp,d1,d2,d3⟩
 ·exact absurd d hl
 ·exact ⟨g,cp,by rw [e];rfl,by rw [e];rfl,by rw [e];rfl,c,d1,d2,d3,H,hq⟩
theorem ZeA (B gb q:Nat) (l:List UInt8) (n:Int) (w:World) (x y z:Value) (T:TypeId) (hbuf:BufQ w B gb l q) (hq:w.heap[q]?=some (.cells #[x,y,z] T)) (hBw:B<=w.heap.size) (h0:0<=n) (h1:n<=2147483647) (hl:l.length<=1000000) :
 Calls Tryz.prog 119 #[.int .i64 n,.pointer (some ⟨gb,0,none⟩)] w fun e w'=>e=.returned (.tuple #[])/\Below B w w'/\∃ L2 g cp,Hid (L2=l++Nm.nb n.toNat)/\L2.length<=l.length+5/\Open w' B gb q L2 x y z T g cp:=by
 refine (ZoE B gb l n w q hbuf hBw h0 h1 hl).mono ?_;rintro e w' ⟨rfl,hb,hbq,hh⟩;obtain ⟨g,cp,ho⟩:=BufQ.open hbq (by simp [Nm.ZpJ]) (hh.trans hq);exact ⟨rfl,hb,_,g,cp,rfl,by have:=Nm.ZD n.toNat (by omega);simp;omega,ho⟩
def tb (t:Tk.T):List UInt8:=if t.lit.size ≠ 0 then Nm.nb (2*t.lit.size)++t.lit.data.toList else Nm.nb (2*t.len+1).toNat++Nm.nb t.far.toNat
def tbs:List Tk.T->List UInt8
 | []=>[]
 | t :: l=>tb t++tbs l
theorem Zjw (l:List Tk.T) (t:Tk.T):tbs (l++[t])=tbs l++tb t:=by
 induction l with
 | nil=>simp [tbs]
 | cons a l ih=>simp [tbs,ih]
theorem BufAt.alloc {w:World} {B gb:Nat} {l:List UInt8} (h:BufAt w B gb l) (o:Obj):BufAt (w.alloc o) B gb l:=h.below ((Below.refl _ _).alloc (Nat.le_refl _) o)
theorem ZlJ (dict:ByteArray) (ad:Option Addr) (cap:Nat) (l:List Tk.T) (w:World) (hl:SlAt w ad l) (hs:Sane l) (e0:Int) (he:Zl dict l=e0) (hne:(e0 != 0)=true) :
 Calls Tryz.prog 89 #[.string dict,.slice ad l.length cap] w fun e w'=>e=.returned (.tuple #[.string ⟨#[]⟩,.int .i64 e0])/\Below w.heap.size w w':=by
 have hc:=fun w hl=>Zgr dict ad cap l w hl hs
 rw [he] at hc;clear he;go_enter Tryz.func89,Tryz.ntmps89
 go_wp2_with fail
 refine (hc _ hl).mono ?_;rintro e w1 ⟨rfl,G⟩;clear hc;go_wp2_with fail
 go_ret2
 exact ⟨rfl,G⟩
theorem ZpF (dict:ByteArray) (b off cap:Nat) (l:List Tk.T) (w:World) (hb:b<w.heap.size) (hl:TkAt w b off l) (hs:Sane l) (hd:dict.size<=256) (s1:List UInt8) (hr:Tk.run dict.size dict.data.toList false l=(0,s1)) :
 Calls Tryz.prog 89 #[.string dict,.slice (some ⟨b,off,none⟩) l.length cap] w fun e w'=>e=.returned (.tuple #[.string ⟨(tbs l).toArray⟩,.int .i64 0])/\Below w.heap.size w w':=by
 have hc:=ZcT dict b off cap l w hd hb hl hs;rw [hr] at hc;have hd':(dict.size:Int)<=256:=by omega
 have hn':(l.length:Int)<=140737488355328:=by have:=hs.1;omega
 have hmf:∀ (fn:Fn) (first cap:Array Value) (w:World),(Instr.makeFunc fn first cap).run Tryz.prog w=.ok (.func fn first cap) w:=fun _ _ _ _=>rfl
 go_enter Tryz.func89,Tryz.ntmps89
 go_wp2_with fail
 refine hc.mono ?_;rintro e w1 ⟨rfl,G⟩;clear hc;have Hr:Hid (Tk.run dict.size dict.data.toList false l=(0,s1)):=hr;clear hr;go_wp2_with fail
 go_loopw [20] (fun i wr=>∃ (k:Nat) (s:List UInt8) (p:Bool) (L:List UInt8),k<=l.length/\i=.int .i64 k/\BufAt wr w.heap.size w1.heap.size L/\Hid (L=tbs (l.take k))/\L.length+11*dict.size<=11*s.length ∧
  Hid (Tk.run dict.size s p (l.drop k)=(0,s1))/\dict.size<=s.length/\s.length<=dict.size+512/\Below w.heap.size w wr)
  (fun i _=>l.length - (intOf i).toNat)
 case atStart =>
  refine ⟨0,dict.data.toList,false,[],by omega,rfl,?_,rfl,by simp,Hr,by simp,by simp,G.alloc G.size _⟩;exact ⟨G.size,by simp,by rw [World.frozen?_alloc_mark];simp,.inl ⟨by rw [World.cell?_alloc_mark];rfl,rfl⟩⟩
 case round =>
  have hw1:=G.size;clear G;obtain ⟨k,s,p,L,hk,rfl,hbuf,hL,hLl,hrun,hs1,hs2,G⟩:=hrel;by_cases hlt:k<l.length
  ·have hdrop:l.drop k=l[k] :: l.drop (k+1):=List.drop_eq_getElem_cons hlt;obtain ⟨c0,c1,c2⟩:=hl k hlt;rw [<-G.cell (by exact hb)] at c0 c1 c2;rw [hdrop] at hrun
   have HT:Hid (tbs (l.take (k+1))=L++tb l[k]):=by
    show _=_;rw [hL.out,<-Zjw]
    congr 1
    simp
   clear hdrop hl hs;generalize l[k]=t at *
   have he:Tk.err dict.size s p t=0:=by
    by_cases h:Tk.err dict.size s p t=0
    ·exact h
    ·have:=hrun.out;rw [Tk.Zaf h] at this;simp only [Prod.mk.injEq] at this;exact absurd this.1 h
   have HR:Hid (Tk.run dict.size (Tk.make s t) (decide (t.lit.size ≠ 0)) (l.drop (k+1))=(0,s1)):=by
    have:=hrun.out;rw [Tk.Zai he] at this;exact this
   have hmk:=Tk.ZbZ he;have hgs:=G.size;have HB:Hid (BufAt wr w.heap.size w1.heap.size L):=hbuf;clear hbuf he hrun;by_cases h0:t.lit.size ≠ 0
   ·have hE0:=ZW h0
    have HMK:Hid ((Tk.make s t).length=s.length+t.lit.size):=by
     have:=hmk.2.2.2.1 h0;show _=_;rw [hmk.1,this.2];rfl
    have hl512:(t.lit.size:Int)<=512:=by have:=hmk.2.2.2.2;omega
    have Hb512:Hid ((s.length:Int) - dict.size+t.lit.size<=512):=by have:=hmk.2.2.2.2;show _<=_;omega
    clear hmk;have Hne:Hid (∀ l:List UInt8,l++t.lit.data.toList ≠ []):=fun l e=>h0 (by simpa using congrArg List.length (List.append_eq_nil_iff.1 e).2)
    have hsd:t.lit.size<=512:=by omega
    go_wp2_with (first | (go_at_call 119;go_must (refine (ZeA w.heap.size w1.heap.size wr.heap.size L _ _ _ _ _ _ (HB.out.box _) (heap_alloc_new _ _) (ZG _ hgs) (by omega) (by omega) (by omega)).mono ?_;rintro e w3 ⟨rfl,hb3,L2,g3,cp3,HL2,hl2,x1,x2,x3,x4,x5,x6,x7,x8,x9⟩;have hgs3:=hb3.size;have hsz3:=ZG (.cells #[.string t.lit,.int .i64 t.far,.int .i64 t.len] 145) hgs)) | (at_builtin;go_must (refine Zcb _ rfl _ _ rfl w.heap.size (.slice (some ⟨g3,0,none⟩) L2.length cp3) L2 rfl x6.out t.lit rfl (by omega) (by omega) (Hne.out _) ?_;intro g4 cp4 w4 hA;obtain ⟨k1,k2,k3,k4,k5⟩:=BufQ.app x8.out x5 (by simp [Value.ownBlock];exact x7) (Or.inr ⟨_,_,_,rfl⟩) hA)))
    go_roundw
    case rel =>
     have e1:(L2++t.lit.data.toList).length=L2.length+t.lit.size:=by simp
     have h3:=k3.out;have h4:=k4.out;have e2:=HMK.out;have e3:=Hb512.out;rw [e1] at h3 h4;refine ⟨k+1,Tk.make s t,_,L2++t.lit.data.toList,by omega,by go_num,h3.1,?_,by rw [e1];omega,HR,by omega,by omega,((G.alloc hgs _).trans hb3).trans h4⟩;show _=_;rw [HT.out,HL2.out,tb,if_pos h0,List.append_assoc]
     congr 2
    case measure=>simp [intOf];omega
   ·have h00:t.lit.size=0:=by omega
    have hE0:=Zao h00;obtain ⟨f1,f2,f3,f4⟩:=hmk.2.2.1 h00
    have HMK:Hid ((Tk.make s t).length=s.length+t.len.toNat):=by
     show _=_;rw [hmk.1,h00];rfl
    have Hb512:Hid ((s.length:Int) - dict.size+t.len<=512):=by have:=hmk.2.2.2.2;show _<=_;omega
    have tok:True:=trivial;clear hmk;go_wp2_with (first | (go_at_call 119;have _t:=tok;clear tok;go_must (refine (ZeA w.heap.size w1.heap.size wr.heap.size L _ _ _ _ _ _ (HB.out.box _) (heap_alloc_new _ _) (ZG _ hgs) (by omega) (by omega) (by omega)).mono ?_;rintro e w3 ⟨rfl,hb3,L2,g3,cp3,HL2,hl2,x1,x2,x3,x4,x5,x6,x7,x8,x9⟩;have hgs3:=hb3.size;have hsz3:=ZG (.cells #[.string t.lit,.int .i64 t.far,.int .i64 t.len] 145) hgs)) | (go_at_call 119;go_must (refine (ZeA w.heap.size w1.heap.size wr.heap.size L2 _ _ _ _ _ _ x8.out x9.out (by omega) (by omega) (by omega) (by omega)).mono ?_;rintro e w4 ⟨rfl,hb4,L3,g4,cp4,HL3,hl3,y1,y2,y3,y4,y5,y6,y7,y8,y9⟩)))
    go_roundw
    case rel =>
     have e2:=HMK.out;have e3:=Hb512.out;refine ⟨k+1,Tk.make s t,_,L3,by omega,by go_num,y8.out.1,?_,by omega,HR,by omega,by omega,((G.alloc hgs _).trans hb3).trans hb4⟩;show _=_;rw [HL3.out,HL2.out,HT.out,tb,if_neg h0,List.append_assoc]
    case measure=>simp [intOf];omega
  ·have hd1:decide ((k:Int)<(l.length:Int))=false:=by simp;omega
   have hd2:decide (k<l.length)=false:=by simp;omega
   have HE:Hid (tbs l=L):=by
    show _=_;rw [hL.out,List.take_of_length_le (by omega)]
   obtain ⟨_,_,_,d⟩:=hbuf;rcases d with ⟨d,e⟩ | ⟨g,cp,d,e,f⟩
   ·have hcv:=Lib.run_convert_nil_bytes wr 77 9 5 0 U77 U5 U9;subst e;clear hl hs;go_wp2_with fail
    go_ret2
    exact ⟨by rw [HE.out];rfl,G⟩
   ·obtain ⟨_,_,hq,_,_,_,_,q5⟩:=e.form (by simp);simp only [Value.slice.injEq,Option.some.injEq,Addr.mk.injEq,and_true,true_and] at hq;obtain ⟨rfl,rfl⟩:=hq;have hcv:=Own8.conv q5 0 cp;simp only [Nat.sub_zero,List.drop_zero] at hcv;clear hl hs q5 e;go_wp2_with fail
    go_ret2
    exact ⟨by rw [HE.out];rfl,G⟩
attribute [local go_sem ↓] Go.wp_at_zero Go.wp_at_succ
theorem ZnT (dict:ByteArray) (ad:Option Addr) (cap:Nat) (w:World) (hd:dict.size<=256) :
 Calls Tryz.prog 89 #[.string dict,.slice ad 0 cap] w fun e w'=>e=.returned (.tuple #[.string ⟨#[]⟩,.int .i64 0])/\Below w.heap.size w w':=by
 have hc:=ZeG dict ad cap w hd;have hmf:∀ (fn:Fn) (first cap:Array Value) (w:World),(Instr.makeFunc fn first cap).run Tryz.prog w=.ok (.func fn first cap) w:=fun _ _ _ _=>rfl
 have hcv:=fun w=>Lib.run_convert_nil_bytes (P:=Tryz.prog) w 77 9 5 0 U77 U5 U9
 go_enter Tryz.func89,Tryz.ntmps89
 go_wp2_with fail
 refine hc.mono ?_;rintro e w1 ⟨rfl,G⟩;clear hc;go_wp2_with fail
 refine wp_loop_rounds 1 ?_;rw [rounds_succ];go_wp2_with fail
 go_ret2
 exact ⟨rfl,G.alloc G.size _⟩
def ZfE (dict:ByteArray) (l:List Tk.T):ByteArray:=if Zl dict l ≠ 0 then ⟨#[]⟩ else ⟨(tbs l).toArray⟩
theorem Zfg {dict:ByteArray} {l:List Tk.T} (h0:Zl dict l=0):dict.size<=256/\(Tk.run dict.size dict.data.toList false l).1=0:=by
 unfold Zl at h0;by_cases h:256<dict.size
 ·rw [if_pos h] at h0;omega
 ·rw [if_neg h] at h0;exact ⟨by omega,h0⟩
theorem ZmK (dict:ByteArray) (ad:Option Addr) (cap:Nat) (l:List Tk.T) (w:World) (hl:SlAt w ad l) (hs:Sane l) :
 Calls Tryz.prog 89 #[.string dict,.slice ad l.length cap] w fun e w'=>e=.returned (.tuple #[.string (ZfE dict l),.int .i64 (Zl dict l)])/\Below w.heap.size w w':=by
 unfold ZfE;by_cases h0:Zl dict l=0
 ·rw [if_neg (by simpa using h0),h0];obtain ⟨hd,h1⟩:=Zfg h0;rcases hl with rfl | ⟨b,off,rfl,hb,ht⟩
  ·exact ZnT dict ad cap w hd
  ·exact ZpF dict b off cap l w hb ht hs hd _ (by rw [<-h1])
 ·rw [if_pos h0];exact ZlJ dict ad cap l w hl hs _ rfl (by simpa using h0)
def Small (l:List Tk.T):Prop:=l.length<=1000/\∀ t ∈ l,t.lit.size<=1000/\0<=t.len/\t.len<=1000/\0<=t.far/\t.far<=1000
theorem Zuo (t:Tk.T) (h:t.lit.size<=1000/\0<=t.len/\t.len<=1000/\0<=t.far/\t.far<=1000):(tb t).length<=1010:=by
 unfold tb;split
 ·have:=Nm.ZD (2*t.lit.size) (by omega);simp;omega
 ·have h1:=Nm.ZD (2*t.len+1).toNat (by omega);have h2:=Nm.ZD t.far.toNat (by omega);simp;omega
theorem Zfo (b off cap:Nat) (l:List Tk.T) (w:World) (hb:b<w.heap.size) (hl:TkAt w b off l) (hs:Small l) :
 Calls Tryz.prog 106 #[.slice (some ⟨b,off,none⟩) l.length cap] w fun e w'=>e=.returned (.string ⟨(tbs l).toArray⟩)/\Below w.heap.size w w':=by
 have hn':(l.length:Int)<=1000:=by have:=hs.1;omega
 go_enter Tryz.func106,Tryz.ntmps106
 go_wp2_with fail
 go_loopw [3,4] (fun x i wr=>∃ (k:Nat) (X:ByteArray),k<=l.length/\i=.int .i64 k/\x=.string X/\Hid (X.data.toList=tbs (l.take k))/\X.size<=1010*k/\Below w.heap.size w wr)
  (fun _ i _=>l.length - (intOf i).toNat)
 case atStart=>exact ⟨0,⟨#[]⟩,by omega,rfl,rfl,rfl,by decide,bR _ _⟩
 case round =>
  obtain ⟨k,X,hk,rfl,rfl,hX,hXl,G⟩:=hrel;by_cases hlt:k<l.length
  ·obtain ⟨c0,c1,c2⟩:=hl k hlt;rw [<-G.cell (by exact hb)] at c0 c1 c2
   have HT:Hid (tbs (l.take (k+1))=X.data.toList++tb l[k]):=by
    show _=_;rw [hX.out,<-Zjw]
    congr 1
    simp
   have hsm:=hs.2 l[k] (gM hlt);have htl:=Zuo l[k] hsm;clear hl hs;generalize l[k]=t at *;have hi1:(0:Int)<=(k:Int):=by omega
   have hi2:(k:Int)<(l.length:Int):=by omega
   obtain ⟨m1,m2,m3,m4,m5⟩:=hsm;have hXb:(X.size:Int)<=2000000:=by omega
   by_cases h0:t.lit.size ≠ 0
   ·have hE0:=ZW h0;have hls:(t.lit.size:Int)<=1000:=by omega
    have hr1:IntKind.i64.wrap (2*(t.lit.size:Int))=2*(t.lit.size:Int):=IntWalk.i64_in _ ⟨by omega,by omega⟩;have hl5:=Nm.ZD (2*(t.lit.size:Int)).toNat (by omega);have hno1:¬ 9223372036854775807<X.size+(Nm.nb (2*(t.lit.size:Int)).toNat).length:=by omega
    have hno2:¬ 9223372036854775807<X.size+(Nm.nb (2*(t.lit.size:Int)).toNat).length+t.lit.size:=by omega
    go_wp2_with fail
    go_region_held3 (fun w'=>w'.cell? ⟨b,off+k*3,none⟩=some (.string t.lit)) (first | go_keep | (rw [hB.cell (by exact Nat.lt_of_lt_of_le hb G.size)];assumption)) (first | (go_at_call 131;refine (Zam (2*t.lit.size) (2*(t.lit.size:Int)) _ (by omega) (by omega) (by omega)).mono ?_;rintro e w1 ⟨rfl,hB⟩))
    go_wp2_with fail
    go_roundw
    case rel =>
     have e1:(X++⟨(Nm.nb (2*(t.lit.size:Int)).toNat).toArray⟩++t.lit).data.toList=tbs (l.take (k+1)):=by
      rw [Nm.appd,Nm.appd,HT.out,tb,if_pos h0,List.append_assoc]
      congr 2
     have e2:(X++⟨(Nm.nb (2*(t.lit.size:Int)).toNat).toArray⟩++t.lit).size<=1010*(k+1):=by
      rw [Nm.apps,Nm.apps,ZdB (Nm.nb _)];omega
     exact ⟨k+1,_,by omega,by go_num,rfl,e1,e2,bch G.drew hB (nl _)⟩
    case measure=>simp [intOf];omega
   ·have hE0:=Zao (s:=t.lit) (by omega);have hr1:IntKind.i64.wrap (2*t.len)=2*t.len:=IntWalk.i64_in _ ⟨by omega,by omega⟩;have hr2:IntKind.i64.wrap (2*t.len+1)=2*t.len+1:=IntWalk.i64_in _ ⟨by omega,by omega⟩;have hl5:=Nm.ZD (2*t.len+1).toNat (by omega);have hl6:=Nm.ZD t.far.toNat (by omega);have hno1:¬ 9223372036854775807<X.size+(Nm.nb (2*t.len+1).toNat).length:=by omega
    have hno2:¬ 9223372036854775807<X.size+(Nm.nb (2*t.len+1).toNat).length+(Nm.nb t.far.toNat).length:=by omega
    go_wp2_with fail
    have hbw:b<wr.heap.size:=nT hb G.size;have tok:True:=trivial;go_region_held3 (fun w'=>w'.cell? ⟨b,off+k*3+1,none⟩=some (.int .i64 t.far)/\w'.cell? ⟨b,off+k*3+2,none⟩=some (.int .i64 t.len)) (first | (go_keep;done) | exact ⟨(hB2.cell (by exact nT hbw hB1.size)).trans ((hB1.cell (by exact hbw)).trans c1),(hB2.cell (by exact nT hbw hB1.size)).trans ((hB1.cell (by exact hbw)).trans c2)⟩ | exact ⟨(hB1.cell (by exact hbw)).trans c1,(hB1.cell (by exact hbw)).trans c2⟩) (first | (go_at_call 131;have _t:=tok;clear tok;refine (Zam (2*t.len+1).toNat (2*t.len+1) _ (by omega) (by omega) (by omega)).mono ?_;rintro e w1 ⟨rfl,hB1⟩) | (go_at_call 131;refine (Zam t.far.toNat t.far _ (by omega) (by omega) (by omega)).mono ?_;rintro e w2 ⟨rfl,hB2⟩))
    go_wp2_with fail
    go_roundw
    case rel =>
     have e1:(X++⟨(Nm.nb (2*t.len+1).toNat).toArray⟩++⟨(Nm.nb t.far.toNat).toArray⟩).data.toList=tbs (l.take (k+1)):=by
      rw [Nm.appd,Nm.appd,HT.out,tb,if_neg h0,List.append_assoc]
     have e2:(X++⟨(Nm.nb (2*t.len+1).toNat).toArray⟩++⟨(Nm.nb t.far.toNat).toArray⟩).size<=1010*(k+1):=by
      rw [Nm.apps,Nm.apps,ZdB (Nm.nb _),ZdB (Nm.nb _)];omega
     exact ⟨k+1,_,by omega,by go_num,rfl,e1,e2,bch (bch G.drew hB1 (nl _)) hB2 (nl _)⟩
    case measure=>simp [intOf];omega
  ·have hd1:decide ((k:Int)<(l.length:Int))=false:=by simp;omega
   have hd2:decide (k<l.length)=false:=by simp;omega
   have HE:Hid (X=⟨(tbs l).toArray⟩):=by
    show _=_;apply Nm.ZF;rw [hX.out,List.take_of_length_le (by omega)]
   clear hl hs;go_wp2_with fail
   go_ret
   exact ⟨by rw [<-HE.out];rfl,G⟩
theorem Zhs (ad:Option Addr) (cap:Nat) (w:World) :
 Calls Tryz.prog 106 #[.slice ad 0 cap] w fun e w'=>e=.returned (.string ⟨#[]⟩)/\Below w.heap.size w w':=by
 go_enter Tryz.func106,Tryz.ntmps106
 go_wp2_with fail
 refine wp_loop_rounds 1 ?_;rw [rounds_succ];go_wp2_with fail
 go_ret
 exact ⟨rfl,bR _ _⟩
theorem Zhe (ad:Option Addr) (cap:Nat) (l:List Tk.T) (w:World) (hl:SlAt w ad l) (hs:Small l) :
 Calls Tryz.prog 106 #[.slice ad l.length cap] w fun e w'=>e=.returned (.string ⟨(tbs l).toArray⟩)/\Below w.heap.size w w':=by
 rcases hl with rfl | ⟨b,off,rfl,hb,ht⟩
 ·exact Zhs ad cap w
 ·exact Zfo b off cap l w hb ht hs
def Okt (t:Tk.T):Prop:=(t.lit.size ≠ 0/\t.far=0/\t.len=0/\t.lit.size<=512)\/(t.lit.size=0/\1<=t.far/\t.far<=768/\3<=t.len/\t.len<=64)
theorem ZsD {d:Nat} {s:List UInt8} {p:Bool} {t:Tk.T} {l:List Tk.T} (h:(Tk.run d s p (t :: l)).1=0):Tk.err d s p t=0/\(Tk.run d (Tk.make s t) (decide (t.lit.size ≠ 0)) l).1=0:=by
 by_cases e:Tk.err d s p t=0
 ·rw [Tk.Zai e] at h;exact ⟨e,h⟩
 ·rw [Tk.Zaf e] at h;exact absurd h e
theorem Zuh {t:Tk.T} (h:Okt t):(tb t).length<=2*(t.lit.size+t.len.toNat):=by
 unfold tb;rcases h with ⟨h0,h1,h2,h3⟩ | ⟨h0,h1,h2,h3,h4⟩
 ·rw [if_pos h0,List.length_append];have hl:t.lit.data.toList.length=t.lit.size:=by simp
  rw [hl];by_cases h5:2*t.lit.size<128
  ·rw [Nm.Zdy h5];simp only [List.length_cons,List.length_nil];omega
  ·have:=Nm.ZcM 1 (2*t.lit.size) (by omega);omega
 ·rw [if_neg (by omega),List.length_append];have a1:=Nm.ZcM 1 (2*t.len+1).toNat (by omega);have a2:=Nm.ZcM 1 t.far.toNat (by omega);omega
theorem Zrw {d:Nat} (hd:d<=256):∀ (l:List Tk.T) (s:List UInt8) (p:Bool),d<=s.length->s.length<=d+512->(Tk.run d s p l).1=0 →
 (∀ t ∈ l,Okt t)/\(tbs l).length+2*s.length<=2*(d+512)/\l.length+s.length<=d+512:=by
 intro l
 induction l with
 | nil=>intro s p h1 h2 _;refine ⟨fun t h=>by simp at h,?_,?_⟩ <;> simp [tbs] <;> omega
 | cons t l ih =>
  intro s p h1 h2 h;obtain ⟨he,h⟩:=ZsD h;obtain ⟨m1,m2,m3,m4,m5⟩:=Tk.ZbZ he
  have ok:Okt t:=by
   by_cases h0:t.lit.size=0
   ·have:=m3 h0;exact .inr ⟨h0,by omega,by omega,by omega,by omega⟩
   ·have:=m4 h0;exact .inl ⟨h0,this.1,this.2,by omega⟩
  have ht:=Zuh ok;obtain ⟨i1,i2,i3⟩:=ih (Tk.make s t) _ (by omega) (by omega) h;have hpos:1<=t.lit.size+t.len.toNat:=by rcases ok with h | h <;> omega
  refine ⟨?_,?_,?_⟩
  ·intro u hu;rcases List.mem_cons.1 hu with rfl | hu
   ·exact ok
   ·exact i1 u hu
  ·simp only [tbs,List.length_append];omega
  ·simp only [List.length_cons];omega
theorem ZbI {dict:ByteArray} {l:List Tk.T} (h:Zl dict l=0):(∀ t ∈ l,Okt t)/\(tbs l).length<=1024/\l.length<=512:=by
 obtain ⟨hd,h1⟩:=Zfg h;have hl:dict.data.toList.length=dict.size:=by simp
 have:=Zrw hd l dict.data.toList false (by omega) (by omega) h1;exact ⟨this.1,by omega,by omega⟩
theorem Zbo {dict:ByteArray} {l:List Tk.T} (h:Zl dict l=0):Small l:=by
 obtain ⟨h1,_,h3⟩:=ZbI h;refine ⟨by omega,fun t ht=>?_⟩;rcases h1 t ht with h | h <;> omega
theorem Zdd {l:List Tk.T} (h:Small l):Sane l:=⟨by have:=h.1;omega,fun t ht=>by have:=h.2 t ht;omega⟩
theorem Ztf {t:Tk.T} (h:Okt t) (r:List UInt8):Tk.one ⟨(tb t++r).toArray⟩=some (t,(tb t).length):=by
 unfold Tk.one tb;rcases h with ⟨h0,h1,h2,h3⟩ | ⟨h0,h1,h2,h3,h4⟩
 ·rw [if_pos h0];have hl:t.lit.data.toList.length=t.lit.size:=by simp
  have hf:Nm.Zm (⟨(Nm.nb (2*t.lit.size)++t.lit.data.toList++r).toArray⟩:ByteArray).data.toList=some (2*t.lit.size,(Nm.nb (2*t.lit.size)).length):=by
   show Nm.Zm (Nm.nb (2*t.lit.size)++t.lit.data.toList++r).toArray.toList=_;rw [List.toList_toArray,List.append_assoc];exact Nm.Zec _ _ (by omega)
  rw [hf];simp only;rw [if_neg (by omega),if_neg]
  ·congr 2
   ·obtain ⟨x,f,n⟩:=t;simp only at h1 h2;subst h1 h2
    congr 1
    apply Nm.ZF;rw [Tk.Zad];show (((Nm.nb (2*x.size)++x.data.toList++r).toArray.toList).drop _).take _=_;rw [List.toList_toArray,List.append_assoc,List.drop_left,show (Nm.nb (2*x.size)).length+2*x.size / 2 - (Nm.nb (2*x.size)).length=x.data.toList.length by simp];exact List.take_left ..
   ·rw [List.length_append,hl];omega
  ·show ¬ (Nm.nb (2*t.lit.size)++t.lit.data.toList++r).toArray.size - _<_;simp only [List.size_toArray,List.length_append,hl];omega
 ·rw [if_neg (by omega)]
  have hf:Nm.Zm (⟨(Nm.nb (2*t.len+1).toNat++Nm.nb t.far.toNat++r).toArray⟩:ByteArray).data.toList=some ((2*t.len+1).toNat,(Nm.nb (2*t.len+1).toNat).length):=by
   show Nm.Zm (Nm.nb (2*t.len+1).toNat++Nm.nb t.far.toNat++r).toArray.toList=_;rw [List.toList_toArray,List.append_assoc];exact Nm.Zec _ _ (by omega)
  rw [hf];simp only;rw [if_pos (by omega),Tk.ZQ]
  have hg:Nm.Zm ((⟨(Nm.nb (2*t.len+1).toNat++Nm.nb t.far.toNat++r).toArray⟩:ByteArray).data.toList.drop (Nm.nb (2*t.len+1).toNat).length)=some (t.far.toNat,(Nm.nb t.far.toNat).length):=by
   show Nm.Zm ((Nm.nb (2*t.len+1).toNat++Nm.nb t.far.toNat++r).toArray.toList.drop _)=_;rw [List.toList_toArray,List.append_assoc,List.drop_left];exact Nm.Zec _ _ (by omega)
  rw [hg];simp only
  congr 2
  ·obtain ⟨x,f,n⟩:=t;simp only at h0 h1 h2 h3 h4
   congr 1
   ·apply Nm.ZF;have:x.data.toList.length=0:=h0;rw [List.eq_nil_of_length_eq_zero this]
   ·simp only;omega
   ·simp only;omega
  ·rw [List.length_append]
theorem ZuI:∀ (l:List Tk.T),(∀ t ∈ l,Okt t)->Tk.D ⟨(tbs l).toArray⟩=some l:=by
 intro l
 induction l with
 | nil=>intro _;exact Tk.Zpw rfl
 | cons t l ih =>
  intro h;rw [show tbs (t :: l)=tb t++tbs l from rfl,Tk.Zhv (Ztf (h t (by simp)) (tbs l))]
  have e:(⟨(tb t++tbs l).toArray⟩:ByteArray).extract (tb t).length (⟨(tb t++tbs l).toArray⟩:ByteArray).size=⟨(tbs l).toArray⟩:=by
   apply Nm.ZF;rw [Tk.ZQ];show (tb t++tbs l).toArray.toList.drop _=(tbs l).toArray.toList;rw [List.toList_toArray,List.toList_toArray,List.drop_left]
  rw [e,ih (fun u hu=>h u (by simp [hu]))];rfl
theorem Ztk {s:ByteArray} {t:Tk.T} {k:Nat} (h:Tk.one s=some (t,k)) (ho:Okt t):tb t=s.data.toList.take k:=by
 unfold Tk.one at h;have hl:s.data.toList.length=s.size:=by simp
 cases hf:Nm.Zm s.data.toList with
 | none=>rw [hf] at h;simp at h
 | some x =>
  obtain ⟨n,j⟩:=x;rw [hf] at h;simp only at h;obtain ⟨f1,f2,f3,f4,f5⟩:=Nm.Zaj hf;by_cases hp:n % 2=1
  ·rw [if_pos hp] at h
   cases hg:Nm.Zm (s.extract j s.size).data.toList with
   | none=>rw [hg] at h;simp at h
   | some y =>
    obtain ⟨f,i⟩:=y;rw [hg] at h;simp only [Option.some.injEq,Prod.mk.injEq] at h;obtain ⟨rfl,rfl⟩:=h;obtain ⟨g1,g2,g3,g4,g5⟩:=Nm.Zaj hg;rw [Tk.ZQ] at g2;unfold tb;rw [if_neg (fun h=>h rfl)];simp only;rw [show (2*((n / 2:Nat):Int)+1).toNat=n by omega,show ((f:Nat):Int).toNat=f by omega,f2,g2,List.take_add]
  ·rw [if_neg hp] at h;by_cases hb:s.size - j<n / 2
   ·rw [if_pos hb] at h;simp at h
   ·rw [if_neg hb] at h;simp only [Option.some.injEq,Prod.mk.injEq] at h;obtain ⟨rfl,rfl⟩:=h;have hz:(s.extract j (j+n / 2)).size=n / 2:=by simp;omega
    unfold tb;rcases ho with ho | ho
    ·rw [if_pos ho.1];simp only;rw [hz,show 2*(n / 2)=n by omega,f2,Tk.Zad,show j+n / 2 - j=n / 2 by omega,List.take_add]
    ·exact absurd ho.2.1 (by simp)
theorem Zux:∀ (n:Nat) (s:ByteArray) (l:List Tk.T),s.size<=n->Tk.D s=some l->(∀ t ∈ l,Okt t)->tbs l=s.data.toList:=by
 intro n
 induction n with
 | zero =>
  intro s l h1 h2 _;rw [Tk.Zpw (by omega)] at h2
  cases h2
  have:s.data.toList.length=0:=show s.size=0 by omega
  rw [List.eq_nil_of_length_eq_zero this];rfl
 | succ n ih =>
  intro s l h1 h2 h3;by_cases h0:s.size=0
  ·exact ih s l (by omega) h2 h3
  ·cases ho:Tk.one s with
   | none=>rw [Tk.Zhp h0 ho] at h2;cases h2
   | some x =>
    obtain ⟨t,k⟩:=x;have hp:=Tk.Zda ho;rw [Tk.Zhv ho] at h2
    cases hD:Tk.D (s.extract k s.size) with
    | none=>rw [hD] at h2;cases h2
    | some m =>
     rw [hD] at h2;simp only [Option.map_some,Option.some.injEq] at h2;subst h2;have:=ih (s.extract k s.size) m (by rw [Tk.Zp];omega) hD (fun u hu=>h3 u (by simp [hu]));rw [Tk.ZQ] at this;rw [show tbs (t :: m)=tb t++tbs m from rfl,this,Ztk ho (h3 t (by simp)),List.take_append_drop]
theorem Zem {dict s:ByteArray} {l:List Tk.T} (hd:dict.size<=256) (h:Zz dict s=some l):Tk.D s=some l/\Zl dict l=0:=by
 unfold Zz at h
 cases hD:Tk.D s with
 | none=>rw [hD] at h;simp at h
 | some m =>
  rw [hD] at h;simp only at h;by_cases hr:(Tk.run dict.size dict.data.toList false m).1=0
  ·rw [if_pos hr] at h
   cases h
   refine ⟨rfl,?_⟩;unfold Zl;rw [if_neg (by omega),hr]
  ·rw [if_neg hr] at h;cases h
theorem ZlE {dict s:ByteArray} {l:List Tk.T} (hD:Tk.D s=some l) (hc:Zl dict l=0):Zz dict s=some l:=by
 unfold Zz;rw [hD];simp only;rw [if_pos (Zfg hc).2]
theorem ZjO {dict s:ByteArray} {l:List Tk.T} (hd:dict.size<=256) (h:Zz dict s=some l):(⟨(tbs l).toArray⟩:ByteArray)=s/\Zl dict l=0:=by
 obtain ⟨h1,h2⟩:=Zem hd h;refine ⟨?_,h2⟩;rw [Zux s.size s l (Nat.le_refl _) h1 (ZbI h2).1,Nm.Znt]
theorem ZeT {dict s:ByteArray} (hd:dict.size<=256) (h:1024<s.size):Zz dict s=none:=by
 cases hr:Zz dict s with
 | none=>rfl
 | some l =>
  obtain ⟨h1,h2⟩:=ZjO hd hr;have:=(ZbI h2).2.1;rw [<-h1] at h;have e:(⟨(tbs l).toArray⟩:ByteArray).size=(tbs l).length:=rfl;omega
theorem Zgv {dict s:ByteArray} (hd:dict.size<=256):Zbu dict s=Zz dict s:=by
 unfold Zbu Zz
 cases hD:Tk.D s with
 | none=>rfl
 | some l =>
  simp only;by_cases hr:(Tk.run dict.size dict.data.toList false l).1=0
  ·have hc:Zl dict l=0:=by unfold Zl;rw [if_neg (by omega),hr]
   rw [if_pos hr,if_pos ⟨(ZbI hc).2.2,hc⟩]
  ·have hc:¬ Zl dict l=0:=by unfold Zl;rw [if_neg (by omega)];exact hr
   rw [if_neg hr,if_neg (fun h=>hc h.2)]
theorem ZeX {dict:ByteArray} {l:List Tk.T} (hc:Zl dict l=0):Zz dict ⟨(tbs l).toArray⟩=some l:=ZlE (ZuI l (ZbI hc).1) hc
theorem ZnP (l:List UInt8) (a far:Nat) (h1:1<=far) (h2:far<=a):∀ n,(∀ j,j<n->l[a - far+j]?=l[a+j]?)->a+n<=l.length->Tk.copy far n (l.take a)=l.take (a+n):=by
 intro n
 induction n with
 | zero=>intro _ _;rfl
 | succ n ih =>
  intro h hl;rw [Tk.Zek,ih (fun j hj=>h j (by omega)) (by omega)];have hlen:(l.take (a+n)).length=a+n:=by rw [List.length_take];omega
  rw [hlen,List.getD_eq_getElem?_getD,List.getElem?_take,if_pos (by omega),show a+n - far=a - far+n by omega,h n (by omega),List.getElem?_eq_getElem (show a+n<l.length by omega),Option.getD_some,show a+(n+1)=(a+n)+1 by omega,List.take_add_one,List.getElem?_eq_getElem (show a+n<l.length by omega)];rfl
theorem Zop {d:Nat} {s:List UInt8} {p:Bool} {f n:Nat} (h1:3<=n) (h2:n<=64) (h3:1<=f) (h4:f<=s.length) (h5:s.length+n<=d+512):Tk.err d s p ⟨⟨#[]⟩,(f:Nat),(n:Nat)⟩=0:=by
 unfold Tk.err;rw [if_neg (fun h=>h rfl),if_neg (by simp only;omega),if_neg (by simp only;omega)]
theorem Znh {s:List UInt8} {f n:Nat}:Tk.make s ⟨⟨#[]⟩,(f:Nat),(n:Nat)⟩=Tk.copy f n s:=by
 unfold Tk.make;rw [if_neg (fun h=>h rfl)];rfl
theorem Zru {d:Nat} {s:List UInt8} {x:ByteArray} (h0:x.size ≠ 0) (h5:s.length+x.size<=d+512):Tk.err d s false ⟨x,0,0⟩=0:=by
 unfold Tk.err;rw [if_pos h0,if_neg (by simp),if_neg (by simp only;omega)]
theorem Zqh {s:List UInt8} {x:ByteArray} (h0:x.size ≠ 0):Tk.make s ⟨x,0,0⟩=s++x.data.toList:=by
 unfold Tk.make;rw [if_pos h0]
theorem ZmV (s:ByteArray) (d f a:Nat) (m:List Tk.T) (h1:f<=a) (h2:a<=s.size) (h3:s.size<=d+512):∃ p,Tk.run d (s.data.toList.take f) false (Tk.lay s f a++m)=Tk.run d (s.data.toList.take a) p m:=by
 have hl:s.data.toList.length=s.size:=by simp
 unfold Tk.lay;by_cases h:f<a
 ·rw [if_pos h];have hz:(s.extract f a).size=a - f:=by simp;omega
  have hlen:(s.data.toList.take f).length=f:=by rw [List.length_take];omega
  refine ⟨decide ((s.extract f a).size ≠ 0),?_⟩;rw [List.cons_append,List.nil_append,Tk.Zai (Zru (by omega) (by rw [hlen,hz];omega)),Zqh (by omega),Tk.Zad,<-List.take_add,show f+(a - f)=a by omega]
 ·rw [if_neg h];refine ⟨false,?_⟩;rw [show f=a by omega];rfl
theorem ZuE (s:ByteArray) (d:Nat) (h3:s.size<=d+512):∀ (n a f:Nat),s.size - a<=n->f<=a->a<=s.size->Tk.run d (s.data.toList.take f) false (Tk.P s a f)=(0,s.data.toList):=by
 have hl:s.data.toList.length=s.size:=by simp
 intro n
 induction n with
 | zero =>
  intro a f h1 h2 h4;rw [Tk.ZsW (by omega)];obtain ⟨p,hp⟩:=ZmV s d f a [] h2 h4 h3;rw [List.append_nil] at hp;rw [hp,Tk.run,List.take_of_length_le (by omega)]
 | succ n ih =>
  intro a f h1 h2 h4;by_cases ha:a<s.size
  ·by_cases hb:(Tk.bst s.data.toList a).2<3
   ·rw [Tk.Zsx ha hb];exact ih (a+1) f (by omega) (by omega) (by omega)
   ·rw [Tk.Znj ha hb];obtain ⟨b1,b2⟩:=Tk.ZiY s.data.toList a;generalize Tk.bst s.data.toList a=b at *;obtain ⟨far,len⟩:=b;simp only at hb b1 b2 |-
    rcases b2 with b2 | ⟨b2,b3,b4,b5⟩
    ·simp only [Prod.mk.injEq] at b2;omega
    ·unfold Tk.most at b1;have hlen:(s.data.toList.take a).length=a:=by rw [List.length_take];omega
     obtain ⟨p,hp⟩:=ZmV s d f a (⟨⟨#[]⟩,(far:Nat),(len:Nat)⟩ :: Tk.P s (a+len) (a+len)) h2 h4 h3;rw [hp,Tk.Zai (Zop (by omega) (by omega) b2 (by omega) (by omega)),Znh,ZnP s.data.toList a far b2 b3 len (fun j hj=>Tk.Zjh _ _ _ _ j (by rw [<-b5];exact hj)) (by omega)];exact ih (a+len) (a+len) (by omega) (nl _) (by omega)
  ·exact ih a f (by omega) h2 h4
theorem Zbm (dict text:ByteArray) (hd:dict.size<=256) (ht:text.size<=512):Zl dict (Tk.P (dict++text) dict.size dict.size)=0/\Zas dict (Tk.P (dict++text) dict.size dict.size)=text:=by
 have h:=ZuE (dict++text) dict.size (by rw [Nm.apps];omega) _ dict.size dict.size (nl _) (nl _) (by rw [Nm.apps];omega);have hl:dict.data.toList.length=dict.size:=by simp
 rw [Nm.appd,<-hl,List.take_left] at h;rw [hl] at h
 have hc:Zl dict (Tk.P (dict++text) dict.size dict.size)=0:=by
  unfold Zl;rw [if_neg (by omega),h]
 refine ⟨hc,?_⟩;unfold Zas;rw [if_neg (by rw [hc];simp),h];simp only;rw [<-hl,List.drop_left,Nm.Znt]
end Go.Proofs.YtbjbjbpgmojcbacGreat
